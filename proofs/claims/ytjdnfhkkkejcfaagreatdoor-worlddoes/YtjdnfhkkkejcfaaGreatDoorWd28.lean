import Derived.Test.YtjdnfhkkkejcfaaGreatDoorWd21
set_option linter.all false
set_option maxRecDepth 100000
set_option maxHeartbeats 8000000
namespace Go.Proofs.YtjdnfhkkkejcfaaGreatDoor
open Go.RowKit Go.Maps Go.Proofs.Tryz
abbrev aG:=Bool × ie × aD
instance decCell:DecidableEq aG:=@instDecidableEqProd _ _ inferInstance (@instDecidableEqProd _ _ (inferInstance:DecidableEq ie) Gk)
def bn:aG:=(false,[],[],0)
def dw(c:aG):Int:=if c.1≠decide (0<c.2.1.length)\/(c.1=false/\¬(c.2.2.2=0/\c.2.2.1=[])) then 4 else if c.1=false then 0 else if bl c.2.1=0 then aj c.2.2 else bl c.2.1
def cy:List aG->Int
 |[]=>0
 |c :: r=>if dw c=0 then cy r else dw c
def bC(l:List aG):Int:=if l.length=4 then cy l else 4
theorem sM:∀ {l:List aG},cy l=0 ↔ ∀c∈l,dw c=0
 |[]=>by simp[cy]
 |c :: r=>by
  unfold cy
  by_cases h:dw c=0
  ·rw[Io h,sM];simp[h]
  rw[iO h];constructor
  ·intro a;exact absurd a h
  intro a;exact absurd (a c (by simp)) h
theorem oE(l:List aG)(k:Nat)(c:aG)(h:l[k]?=some c):cy (l.drop k)=if dw c=0 then cy (l.drop (k+1)) else dw c:=by obtain⟨a,rfl⟩:=K9.1 h;rw[KM a];rfl
theorem f7{l:List aG}:bC l=0 ↔ l.length=4/\∀c∈l,dw c=0:=by
 unfold bC
 by_cases h:l.length=4
 ·rw[Io h,sM];simp[h]
 rw[iO h];constructor
 ·intro a;omega
 intro a;exact absurd a.1 h
def bW(l:List aG)(k:Int):aG:=l.getD k.toNat bn
def fS(p:aD):aG × Int:=if cB p=0 then ((true,[cm p],p),0) else (bn,cB p)
def j6(l:List aG)(r:az):aG × Int:=
 if r.1=3 then (if (bW l r.2.2.1).1=true then fS (bW l r.2.2.1).2.2 else (bn,5))
 else if r.1=1 then fS r.2.2.2
 else if r.1=2 then (if dm (bW l r.2.1).2.1 (bW l r.2.1).2.2 r.2.2.2=0 then ((true,dt (bW l r.2.1).2.1 (bW l r.2.1).2.2 r.2.2.2,r.2.2.2),0) else (bn,dm (bW l r.2.1).2.1 (bW l r.2.1).2.2 r.2.2.2))
 else (bn,0)
def cQ(l:List aG)(r:az):Int:=if bC l=0 then (if aZ r=0 then (if decide (r.1=1\/r.1=3)=(bW l r.2.1).1 then 6 else (j6 l r).2) else aZ r) else bC l
def dI(l:List aG)(r:az):List aG:=if cQ l r=0 then l.set r.2.1.toNat (j6 l r).1 else []
def aA:List aG:=[bn,bn,bn,bn]
def db(s:List aG × Int)(r:az):List aG × Int:=if s.2=0 then (if cQ s.1 r=0 then (dI s.1 r,0) else ([],cQ s.1 r)) else s
def ay(a:List az):List aG × Int:=if 40<a.length then ([],2) else a.foldl db (aA,0)
theorem tD:∀ (a:List az) (e:Int),e≠0->a.foldl db ([],e)=([],e)
 |[],_,_=>rfl
 |r :: a,e,h=>by
  rw[List.foldl_cons];have:db ([],e) r=([],e):=by unfold db;rw[iO h]
  rw[this];exact tD a e h
theorem Ig{l}{r:az}(h:cQ l r=0):bC l=0/\aZ r=0/\decide (r.1=1\/r.1=3)≠(bW l r.2.1).1/\(j6 l r).2=0:=by
 unfold cQ at h
 by_cases a:bC l=0
 ·rw[Io a] at h
  by_cases b:aZ r=0
  ·rw[Io b] at h
   by_cases c:decide (r.1=1\/r.1=3)=(bW l r.2.1).1
   ·rw[Io c] at h;cases h
   rw[iO c] at h;exact⟨a,b,c,h⟩
  rw[iO b] at h;exact absurd h b
 rw[iO a] at h;exact absurd h a
theorem vK{l}{r:az}(h:cQ l r=0):dI l r=l.set r.2.1.toNat (j6 l r).1:=by rw[dI,Io h]
def wu(c:aG):Prop:=dw c=0/\(c.1=true->∀x:Nat->Int,eC x=0->fB x 4 c.2.1=vP c.2.2 x)
theorem sj{c:aG}(h:dw c=0)(e:c.1=true):bl c.2.1=0/\aj c.2.2=0/\0<c.2.1.length:=by
 unfold dw at h
 split at h
 ·cases h
 rename_i d;rw[e] at h d;rw[iO (by simp)] at h
 have a:0<c.2.1.length:=by
  by_cases a:0<c.2.1.length
  ·exact a
  exact absurd (.inl (by simp[a])) d
 split at h
 ·rename_i b;exact⟨b,h,a⟩
 rename_i b;exact absurd h b
theorem zt{c:aG}(h:dw c=0)(e:c.1=false):c=bn:=by
 obtain⟨o,f,m,d⟩:=c;simp only at e;subst e;unfold dw at h
 split at h
 ·cases h
 rename_i g;simp only[ne_eq,true_and,not_or,Decidable.not_not] at g;obtain⟨i,j,k⟩:=g
 have l:f=[]:=by
  cases f with
  |nil=>rfl
  |cons a b=>simp at i
 subst l j k;rfl
theorem wD{c:aG}(a:c.1=true)(b:bl c.2.1=0)(d:aj c.2.2=0)(e:0<c.2.1.length):dw c=0:=by unfold dw;rw[iO (by rw[a];simp;exact List.ne_nil_of_length_pos e),iO (by rw[a];simp),Io b,d]
theorem Ej:wu bn:=⟨by decide,λh=>by cases h⟩
theorem C6{p:aD}(h:cB p=0):aj p=0/\aV (cm p)=0:=by
 unfold cB at h
 split at h
 ·rename_i a;refine⟨a,?_⟩;rw[uk a];exact h
 rename_i a;exact absurd h a
theorem C3{p:aD}(a:aj p=0){x:Nat->Int}(b:eC x=0):fB x 4 [cm p]=vP p x:=by
 show (if (dJ x 0 0 (cm p)).1<4 then (dJ x 0 0 (cm p)).1 else 4)=vP p x;rw[B9 a b];have c:(eH p x).1=vP p x:=rfl;have:=GV a b;rw[c]
 split<;>omega
theorem DZ{p}(h:(fS p).2=0):fS p=((true,[cm p],p),0)/\wu (true,[cm p],p)/\cB p=0:=by
 unfold fS at h |-
 by_cases a:cB p=0
 ·have⟨c,b⟩:=C6 a;rw[Io a];refine⟨rfl,⟨wD rfl (fA.2 ⟨by simp,λf d=>?_⟩) c (by simp),λ_ x e=>C3 c e⟩,a⟩;simp at d;rw[d];exact b
 rw[iO a] at h;exact absurd h a
theorem Fr{ls}{p q:aD}(h:dm ls p q=0):bl ls=0/\bl (dt ls p q)=0/\dt ls p q=ls++[cm (fE p q)]/\aj q=0/\aT [q,p]=0/\dN q p=none/\∀x,eC x=0->fB x 4 ls=vP p x->fB x 4 (dt ls p q)=vP q x:=by
 have n:dt ls p q=ls++[cm (fE p q)]:=by rw[dt,Io h]
 unfold dm at h
 split at h
 ·rename_i e
  split at h
  ·rename_i g
   split at h
   ·cases h
   rename_i u;obtain⟨b,j,-,-,-,o,m,-,r⟩:=Cf g;have k:=(C6 h).2
   have l:bl (ls++[cm (fE p q)])=0:=by
    have⟨v,c⟩:=fA.1 e;refine fA.2 ⟨by simp;omega,λf a=>?_⟩
    rcases KB.1 a with a|a
    ·exact c f a
    simp at a;rw[a];exact k
   rw[n];refine⟨e,l,rfl,m,b,j,λx i s=>?_⟩;have⟨t,d⟩:=Dv g i;rw[Fc,s,C3 r i,d];have:=GV o i;have:=GV m i
   split<;>omega
  rename_i g;exact absurd h g
 rename_i e;exact absurd h e
def mM(l:List aG):Prop:=l.length=4/\∀c∈l,wu c
theorem BH:mM aA:=⟨rfl,λc a=>by
 simp[aA] at a;rw[a]
 exact Ej⟩
theorem Cx{l:List aG}{k:Int}(h:l.length=4)(b:0<=k/\k<=3):bW l k∈l:=by
 have a:k.toNat<l.length:=by omega
 unfold bW;rw[Kn,Lu a];simp
theorem zg{r:az}(h:aZ r=0):(0<=r.2.1/\r.2.1<=3)/\0<=r.2.2.1/\r.2.2.1<=3:=by have⟨_,b,a,_⟩:=iB h;exact⟨b,a.1,a.2⟩
theorem FG{l}{r:az}(j:mM l)(h:cQ l r=0):wu (j6 l r).1:=by
 have⟨u,n,f,a⟩:=Ig h;have⟨o,v⟩:=zg n
 unfold j6 at a |-
 by_cases g:r.1=3
 ·rw[Io g] at a |-
  by_cases c:(bW l r.2.2.1).1=true
  ·rw[Io c] at a |-
   obtain⟨e,b,-⟩:=DZ a;rw[e];exact b
  rw[iO c] at a
  cases a
 rw[iO g] at a |-
 by_cases i:r.1=1
 ·rw[Io i] at a |-
  obtain⟨e,b,-⟩:=DZ a;rw[e];exact b
 rw[iO i] at a |-
 by_cases k:r.1=2
 ·rw[Io k] at a |-
  by_cases d:dm (bW l r.2.1).2.1 (bW l r.2.1).2.2 r.2.2.2=0
  ·rw[Io d]
   have c:(bW l r.2.1).1=true:=by
    have:decide (r.1=1\/r.1=3)=false:=by simp[i,g]
    rw[this] at f
    cases hb:(bW l r.2.1).1 with
    |true=>rfl
    |false=>rw[hb] at f;exact absurd rfl f
   obtain⟨w,p,q,s,-,-,t⟩:=Fr d;have b:=j.2 _ (Cx j.1 o);exact⟨wD rfl p s (by rw[q];simp),λ_ x m=>t x m (b.2 c x m)⟩
  rw[iO d] at a;exact absurd a d
 rw[iO k];exact Ej
theorem mM.next{l}{r:az}(b:mM l)(h:cQ l r=0):mM (dI l r):=by
 rw[vK h];refine⟨by simpa using b.1,λc a=>?_⟩
 rcases M9 a with a|a
 ·exact b.2 c a
 rw[a];exact FG b h
theorem tS:∀ (b:List az) (s:List aG × Int),(s.2=0->mM s.1)->(b.foldl db s).2=0->mM (b.foldl db s).1
 |[],s,e,h=>e h
 |r :: b,s,e,h=>by
  rw[List.foldl_cons] at h |-
  refine tS b _ (λa=>?_) h
  unfold db at a |-
  by_cases c:s.2=0
  ·rw[Io c] at a |-
   by_cases d:cQ s.1 r=0
   ·rw[Io d];exact(e c).next d
   rw[iO d] at a;exact absurd a d
  rw[iO c] at a;exact absurd a c
theorem iD{rs}(h:(ay rs).2=0):mM (ay rs).1:=by
 unfold ay at h |-
 split at h
 ·cases h
 rename_i a;rw[iO a];exact tS rs _ (λ_=>BH) h
theorem DA(n:Nat)(f:n<=4294967281)(w:World):(Instr.makeSlice 44 (U n) (U n)).run prog w=.ok (.slice (sO w.1.size) n n) (w.alloc (.cells (madeCells #[nL] n) 77)):=by
 obtain⟨a,b,c,d,e⟩:=uS;have:=MQ (P:=prog) w 44 77 a _ Tryz.underlying44 b c .i64 .i64 n n (by omega) (LH _) (by rw[e];omega) (by omega);rw[d] at this
 simpa [Value.cells] using this
theorem Dh(n:Nat)(f:n<=4294967281)(w:World):(Instr.makeSlice 77 (U n) (U n)).run prog w=.ok (.slice (sO w.1.size) n n) (w.alloc (.cells (madeCells #[U 0,U 0,U 0,U 0] (n*4)) 112)):=by
 obtain⟨a,b,c,d,e⟩:=rV;have:=MQ (P:=prog) w 77 112 a _ Tryz.underlying77 b c .i64 .i64 n n (by omega) (LH _) (by rw[e];omega) (by omega);rw[d] at this
 simpa [Value.cells] using this
theorem xG(B g:Nat)(sv cs)(d:Array Value)(w)(h:dR B w sv cs)(x:w.1[g]?=some (.cells d 112 (0,0)))(n:d.size=cs.length*4):
  ∃v,(∀y,(Builtin.copy_ #[77,77] y #[.slice (sO g) cs.length cs.length,sv]).run prog w=.ok (U cs.length) v)/\v.1[g]?=some (.cells (aJ cs).toArray 112 (0,0))/\Below g w v/\∀b,b≠g->v.1[b]?=w.1[b]?:=by
 obtain⟨F,p,G,z,H⟩:=rV;obtain⟨a,I,rfl,J,K,f⟩:=h;have q:Nat.min cs.length cs.length=cs.length:=Nat.min_self _
 cases a with
 |none=>
  have L:cs=[]:=by
   cases cs with
   |nil=>rfl
   |cons r l=>have⟨b,o,e,_⟩:=f 0 r rfl;cases e
  subst L;have A:d=#[]:=LP (by simpa using n);refine⟨w,λy=>?_,by rw[x,A];rfl,Kf _ _,λ_ _=>rfl⟩;simp[Builtin.copy_,KY Tryz.underlying77,Builtin.lenOf,sizeOf,typeInfo,p,Builtin.firstCells,storeCells,goInt]
 |some D=>
  have m:∀j u,(aJ cs)[j]?=some u->w.cell? (D.add j)=some u:=by
   cases cs with
   |nil=>intro j u C;simp[aJ] at C
   |cons r l=>
    have⟨b,o,e,_,_⟩:=f 0 r rfl
    cases e;intro j u C;rw[eM];refine qx (o:=o) (r :: l) o (λi c n=>?_) j u C;have⟨N,O,e,_,k⟩:=f i c n
    cases e;exact k
  have E:=run_loadCells_list (P:=prog) w D (aJ cs) m;rw[f6] at E;have s:=run_storeCells_at prog g 0 112 (aJ cs) 0 d w x (by rw[f6,n];omega) (iA cs);have t:(d.toList.take (0+0)++aJ cs++d.toList.drop (0+0+(aJ cs).length)).toArray=(aJ cs).toArray:=by rw[f6,LG (by simp[n])];simp
  rw[t] at s;refine⟨w.setRow g (aJ cs).toArray,λy=>?_,setRow_heap w g _ _ _ _ x,⟨rfl,rfl,rfl,by simp[World.setRow],λk Q=>Mx w g k _ (by omega)⟩,λb M=>Mx w g b _ M⟩;simp[Builtin.copy_,KY Tryz.underlying77,Builtin.lenOf,Builtin.firstCells,sizeOf,typeInfo,p,z,q,E,s,goInt]
def k9(L:Nat)(w:World)(xs:List Value)(a:ie):Prop:=xs.length=a.length/\∀ (i:Nat) x f,xs[i]?=some x->a[i]?=some f->w.ownsRow L 112 4 x f.length (aJ f)/\∀c∈f,gH c
theorem k9.keep{L w w' xs ls}(h:k9 L w xs ls)(c:dB 112 w w'):k9 L w' xs ls:=⟨h.1,λi x f a b=>⟨eQ (h.2 i x f a b).1 c,(h.2 i x f a b).2⟩⟩
theorem k9.base{L a:Nat}{w xs ls}(h:k9 L w xs ls)(d:a<=L):k9 a w xs ls:=⟨h.1,λi x f b c=>⟨cU (h.2 i x f b c).1 d,(h.2 i x f b c).2⟩⟩
theorem k9.nil(L w):k9 L w [] []:=⟨rfl,λi x f a=>by simp at a⟩
theorem k9.snoc{L w xs ls}{x:Value}{f:List cO}(h:k9 L w xs ls)(e:w.ownsRow L 112 4 x f.length (aJ f))(j:∀c∈f,gH c):k9 L w (xs++[x]) (ls++[f]):=by
 refine⟨by simp[h.1],λi y g a b=>?_⟩
 by_cases d:i<xs.length
 ·rw[Kh d] at a;rw[Kh (by rw[<-h.1];exact d)] at b;exact h.2 i y g a b
 rw[Kk (by omega)] at a;rw[Kk (by rw[<-h.1];omega),<-h.1] at b
 match hk:i-xs.length,a,b with
 |0,a,b=>
  simp at a b;subst a b;exact⟨e,j⟩
 |k+1,a,_=>simp at a
theorem k9.at{L w xs ls}(h:k9 L w xs ls):ii w.1.size w xs ls:=⟨h.1,λi x f a b=>jA (h.2 i x f a b).1 (h.2 i x f a b).2⟩
def sC(L G n:Nat)(c:ie)(w:World):Prop:=
 ∃b a,w.1[G]?=some (.cells (b++a).toArray 77 (0,0))/\b.length+a.length=n/\k9 L w b c
theorem sC.cell{L G n ls w}(h:sC L G n ls w)(j:Nat)(d:j<n):∃u,w.cell? ⟨G,j,none⟩=some u/\w.frozen? ⟨G,j,none⟩=false:=by obtain⟨c,a,b,e,f⟩:=h;exact⟨(c++a)[j]'(by simp;omega),ab b j (by simp),fZ b _⟩
theorem sC.l{L G n ls w w'}(h:sC L G n ls w)(b:bL w w'):sC L G n ls w':=by obtain⟨d,a,c,e,f⟩:=h;exact⟨d,a,(b.block G (io c)).trans c,e,f.keep (dB.of_below b)⟩
theorem sC.put{L G n ls w}{cv:Value}{f:List cO}(h:sC L G n ls w)(r:ls.length<n)(l:∀c∈f,gH c)(m:w.ownsRow L 112 4 cv f.length (aJ f)):
  sC L G n (ls++[f]) (w.setCell ⟨G,ls.length,none⟩ cv):=by
 obtain⟨p,b,j,e,k⟩:=h;have i:=k.1
 obtain⟨g,a,rfl⟩:∃g a,b=g :: a:=by
  match b,e with
  |[],e=>simp at e;omega
  |g :: a,_=>exact⟨g,a,rfl⟩
 have q:=ap (o:=ls.length) (u:=cv) j;have d:dB 112 w (w.setCell ⟨G,ls.length,none⟩ cv):=dB.setOther j (by decide);refine⟨p++[cv],a,?_,by simp at e |-;omega,(k.keep d).snoc (eQ m d) l⟩;rw[q];congr 2;rw[<-i];apply Array.ext';simp[List.set_append]
theorem sC.done{L G n ls w}(h:sC L G n ls w)(i:ls.length=n)(d:L<=G)(e:n<=maxLen):∃a,w.ownsRow L 77 1 (.slice (sO G) n n) n a/\k9 L w a ls:=by obtain⟨a,b,f,j,c⟩:=h;have g:=c.1;refine⟨a,⟨by omega,.inr ⟨G,n,_,rfl,d,f,Ke _,e,by simp;omega,?_⟩⟩,c⟩;simp;rw[List.take_left' (by omega)]
theorem vH(B lv ls w)(hl:cD B w lv ls)(hB:B<=w.1.size)(hn:ls.length<=1000)(J:∀f∈ls,f.length<=100000):
  cL 107 #[lv] w λe K=>∃v,e=.returned v/\∃Y,K.ownsRow w.1.size 77 1 v ls.length Y/\k9 w.1.size K Y ls/\bL w K:=by
 have L:=Z λK (h:bL w K)=>hl.l h hB
 have a2:=Z J;obtain⟨a,c,e3,-,-,-⟩:=hl;subst e3;clear J;have⟨n,u⟩:=nM (ls.length);have HN:=Z u.symm
 rw[<-u] at hn L |-
 clear u;have b7:=ai;have b:=λw=>DA n (by omega) w
 have⟨mc,x⟩:=nM (madeCells #[nL] n);rw[<-x] at b;have y:=b;have s:mc.size=n:=by rw[x,LS]
 clear b x;have⟨H,i⟩:=nM (w.alloc (.cells mc 77));have b8:=sA i;have z:=bA i;have g2:Na H w.1.size mc 77:=by rw[i];exact be _ _ rfl
 have M:Hid (sC w.1.size w.1.size n (ls.take 0) H):=⟨[],mc.toList,by simpa using g2,by simpa using s,k9.nil _ _⟩;have a3:=Z λv (h:Below w.1.size H v)=>z.trans h
 have HW:=Z i;clear i g2 s;go_enter func107,ntmps107;go_wp2_with fail;rw[<-HW.o];clear y;go_loopw [12] (λiv wr=>∃k:Nat,k<=n/\iv=U k/\Hid (sC w.1.size w.1.size n (ls.take k) wr)/\Hid (Below w.1.size H wr)) (λiv _=>n-(intOf iv).toNat)
 case atStart=>exact⟨0,by omega,rfl,M,Kf _ _⟩
 case round=>
  obtain⟨k,hk,rfl,N,j⟩:=hrel;have⟨g,a5⟩:=nM (wr);subst a5;have k0:(0:Int)<=(k:Int):=by omega
  have o:=a3.o _ j.o;have ba:w.1.size+1<=g.1.size:=by have:=j.o.size;omega
  by_cases bb:k<n
  ·have k1:(k:Int)<(n:Int):=by omega
   obtain⟨f,q⟩:∃f,ls[k]?=some f:=⟨ls[k]'(by rw[HN.o];omega),by simp⟩;have a6:=Z (by rw[KN,q];rfl:ls.take (k+1)=ls.take k++[f]);have O:=Z (by rw[Kt,HN.o];omega:(ls.take k).length=k);have P:=a2.o f (Kb q);obtain⟨_,_,e1,-,-,Q⟩:=L.o _ o;have⟨b3,o3,fv,e,ao,q0,r⟩:=Q k f q;simp at e1;obtain⟨rfl,-,-⟩:=e1;subst e;clear Q q;have a7:=Z r.wf;have⟨W5,d⟩:=nM (g.alloc (.cells (madeCells #[U 0,U 0,U 0,U 0] (f.length*4)) 112));have a8:=sA d;have A:=bA d;have c5:Na W5 g.1.size (madeCells #[U 0,U 0,U 0,U 0] (f.length*4)) 112:=by rw[d];exact be _ _ rfl
   obtain⟨C,l,c6,D,R⟩:=xG B g.1.size fv f _ W5 (r.l A (by omega)) c5 (by rw[LS])
   have bg:C.1.size=g.1.size+1:=by
    have h1:=D.size;have h2:C.1[g.1.size+1]?=none:=by rw[R _ (by omega)];exact LZ (by omega)
    have:=Array.getElem?_eq_none_iff.1 h2;omega
   have m:bL g C:=A.trans (D.mono (by omega));have E:=Z (N.o.l m);have F:Hid (C.ownsRow w.1.size 112 4 (.slice (MZ g) f.length f.length) f.length (aJ f)):=⟨by rw[f6],.inr ⟨g.1.size,f.length,_,rfl,by omega,c6,Ke _,by rw[ai];omega,by simp[f6],by rw[Ki (by simp[f6])]⟩⟩;have S:Hid (Below w.1.size H C):=Below.tO j.o m (by omega);obtain⟨a9,c9,aa,-,-⟩:=r.shape;subst aa;have b:=λw=>Dh f.length (by omega) w
   have⟨I,G⟩:=nM (f.length);have ac:=Z G.symm;have⟨mk,t⟩:=nM (madeCells #[U 0,U 0,U 0,U 0] (f.length*4));rw[<-t] at b d;rw[<-G] at b P q0 l F;have y:=b;have ad:=Z d;obtain⟨u0,v0,w0⟩:=E.o.cell k (by omega);have T:Hid (sC w.1.size w.1.size n (ls.take (k+1)) (C.setCell ⟨w.1.size,k,none⟩ (.slice (MZ g) I I))/\Below w.1.size H (C.setCell ⟨w.1.size,k,none⟩ (.slice (MZ g) I I))):=by refine⟨?_,S.o.setCell (p:=⟨w.1.size,k,none⟩) lE _⟩;have:=E.o.put (cv:=.slice (MZ g) I I) (f:=f) (by rw[O.o];omega) a7.o (by rw[ac.o];exact F.o);rw[O.o] at this;rw[a6.o];exact this
   clear a8 A c5 c6 D R m E F d t b G r N j o z S;have V:Hid _:=l;clear l;go_wp2_with fail;rw[<-ad.o,V.o];clear y;go_wp2_with fail;exact⟨⟨k+1,by omega,by go_num,T.o.1,T.o.2⟩,by simp[intOf];omega⟩
  have e:k=n:=by omega
  subst e;have HE:=Z (by rw[<-HN.o,L6]:ls.take k=ls);rw[HE.o] at N;obtain⟨Y,W,X⟩:=N.o.done HN.o lE (by omega);have HF:=Z2 W X;have k1:¬((k:Int)<(k:Int)):=by omega
  have ae:=Z o;clear W X o N j M z;go_wp2_with fail;go_ret;exact⟨_,rfl,Y,HF.o.1,HF.o.2,ae.o⟩
def eA(L:Nat)(w:World)(v:Value)(b:ie):Prop:=∀a:World,(∀g,L<=g->g<w.1.size->a.1[g]?=w.1[g]?)->w.1.size<=a.1.size->cD a.1.size a v b
theorem eA.at{L w v ls}(h:eA L w v ls):cD w.1.size w v ls:=h w (λ_ _ _=>rfl) lE
theorem eA.keep{L a:Nat}{w w':World}{v ls}(h:eA L w v ls)(e:a<=L)(f:∀g,L<=g->g<w.1.size->w'.1[g]?=w.1[g]?)(b:w.1.size<=w'.1.size):eA a w' v ls:=
 λi j k=>h i (λg c d=>(j g (Kl e c) (Kd d b)).trans (f g c d)) (Kl b k)
theorem eA.l{L a:Nat}{w w' v ls}(h:eA L w v ls)(c:a<=L)(b:bL w w'):eA a w' v ls:=h.keep c (λg _ d=>b.block g d) b.size
theorem eA.put{L w v ls}{b o:Nat}{u:Value}(h:eA L w v ls)(a:b<L\/w.1.size<=b):eA L (w.setCell ⟨b,o,none⟩ u) v ls:=h.keep lE (λg c d=>Kc _ _ _ _ (by show g≠b;omega)) (by simp)
theorem kL(L w):eA L w nL []:=λa _ _=>kJ _ _
theorem qW{L:Nat}{w:World}{v:Value}{xs:List Value}{c:ie}(h:w.ownsRow L 77 1 v c.length xs)(d:k9 L w xs c):eA L w v c:=by intro n m o;have e:k9 L n xs c:=⟨d.1,λi x f a b=>⟨bT (d.2 i x f a b).1 λg j k l=>m g k (io l),(d.2 i x f a b).2⟩⟩;exact sR (bT h λg j k l=>m g k (io l)) e.at
def pU(p:aD)(l:List kh)(i:Int):Nat:=(l.filter λx=>kP p (Ep x)==i).length
theorem EE(p)(l:List kh)(x:kh)(i:Int):pU p (l++[x]) i=pU p l i+if kP p (Ep x)=i then 1 else 0:=by
 unfold pU;rw[List.filter_append,Kj]
 by_cases h:kP p (Ep x)=i<;>simp[h]
theorem Iw(p l)(i:Int):pU p l i<=l.length:=List.length_filter_le _ _
theorem Hv(p l i):0<pU p l i ↔ (l.any λx=>kP p (Ep x)==i)=true:=by unfold pU;rw[List.length_pos_iff_exists_mem];simp
theorem xR(B pv lv p cs w)(hp:aX B w pv p)(hl:ia B w lv cs)(hB:B<=w.1.size)(hn:cs.length<=1000)(hk:∀x∈cs,wf (kP p (Ep x))):
  cL 236 #[pv,lv] w λe f=>∃b,e=.returned (.map (some b))/\∃D,f.ownsMap (H:=Unit) prog 3 (plainElem prog 3) b 1000 D/\(∀i,wf i->D.atKey (.int .i64 i) (.lit (.int .i64 0))=.lit (.int .i64 (pU p cs i)))/\bL w f:=by
 have HJ:=Z λx f (h:bL w f)=>yD B pv p x f (hp.l h hB) (h.u hB)
 have HL:=Z λf (h:bL w f)=>hl.l h hB
 have HK:Hid _:=hk;obtain⟨E,d⟩:=p;obtain⟨rv,I,-,a,c,e2,-⟩:=hp;obtain⟨a1,c1,e3,a4,a5,-⟩:=hl;simp only at I e2;subst e2 I e3;clear hk;have a6:=ai;rw[a6] at a5;have⟨N,hN⟩:=nM (cs.length);have HN:=Z hN.symm
 rw[<-hN] at hn a4 HL |-
 clear hN;generalize E.length=n0 at*;have a8:=@run_makeMap prog;have⟨F,g⟩:=nM (w.alloc (.cells #[.slice a n0 c,U d] 30));have a9:=sA g;have aa:=bA g;have g1:=hA g;have n:=Le (H:=Unit) F prog 3 (plainElem prog 3);rw[a9] at n;have⟨W2,o⟩:=nM (F.alloc (.map #[] 0));rw[<-o] at n;have J:Below (w.1.size+1) F W2:=by rw[o];exact bR.alloc (by omega) _
 have ac:=Z n;have ad:=Z λv (h:Below (w.1.size+1) F v)=>Q2 (h.bk g1) (aa.trans (h.mono (by omega)))
 have ae:=Z g;have af:=Z o;have ak:=Z J;clear g o g1 n J;go_enter func236,ntmps236;go_wp2_with fail;rw[<-ae.o];rw[<-af.o];clear a8;go_loopw [14] (λiv wr=>∃ (k:Nat) (D:DataW Unit),k<=N/\iv=U k/\Hid (wr.ownsMap (H:=Unit) prog 3 (plainElem prog 3) (w.1.size+1) k D)/\Hid (∀i,wf i->D.atKey (.int .i64 i) (.lit (.int .i64 0))=.lit (.int .i64 (pU (E,d) (cs.take k) i)))/\Hid (Below (w.1.size+1) F wr)) (λiv _=>N-(intOf iv).toNat)
 case atStart=>exact⟨0,.map [],by omega,rfl,ac,λi _=>rfl,ak⟩
 case round=>
  obtain⟨k,D,hk,rfl,G,W,r⟩:=hrel;have⟨wo,av⟩:=nM (wr);subst av;have k0:(0:Int)<=(k:Int):=by omega
  obtain⟨K,s⟩:=ad.o _ r.o;have bF:=G.o.lt
  by_cases ce:k<N
  ·have k1:(k:Int)<(N:Int):=by omega
   obtain⟨x,t⟩:∃x,cs[k]?=some x:=⟨cs[k]'(by rw[HN.o];omega),by simp⟩;have b0:=Z (by rw[KN,t];rfl:cs.take (k+1)=cs.take k++[x]);have u:=HK.o x (Kb t);have L:Hid (∀i,pU (E,d) (cs.take k) i<=k):=λi=>Kl (Iw _ _ _) (by rw[Kt];omega)
   obtain⟨_,_,I,-,-,j⟩:=HL.o _ s;have⟨b3,o3,e,c0,q0,q1,q2,q3,q4⟩:=j k x t;simp at I;obtain⟨rfl,-,-⟩:=I;subst e;clear j t;obtain⟨x0,x1,x2,x3,x4⟩:=x;simp only[] at q0 q1 q2 q3 q4;have⟨z,y⟩:=nM (kP (E,d) (Ep (x0,x1,x2,x3,x4)));have b7:=Z y.symm;have b8:Hid (∀f,bL w f->cL 253 #[.agg #[.slice a n0 c,U d],.agg #[U x0,U x1,U x2,U x3,U x4]] f λe M=>∃v1 v3,e=.returned (.tuple #[U v1,U z,U v3])/\bL f M):=λf h=>by refine(HJ.o (oz x0 x1 x2 x3 x4) f h).mono ?_;rintro e M ⟨rfl,hb⟩;exact⟨_,_,by rw[y];rfl,hb⟩
   rw[<-y] at u;clear y;have⟨m,Y⟩:=nM (pU (E,d) (cs.take k) z);have b9:=Z (by rw[Y];exact W.o z u:D.atKey (.int .i64 z) (.lit (.int .i64 0))=.lit (.int .i64 (m:Int)));have ck:m<=1000:=by have:=L.o z;omega
   have ba:(Lit.int .i64 ((m:Int)+1)).wf=true:=L4 (by omega);have O:=World.ownsMap.isMap G.o
   have P:Hid (∀i,wf i->(D.put (.int .i64 z) (.lit (.int .i64 ((m:Int)+1)))).atKey (.int .i64 i) (.lit (.int .i64 0))=.lit (.int .i64 (pU (E,d) (cs.take (k+1)) i))):=by
    intro i hi;rw[b0.o,EE,b7.o]
    by_cases h:z=i
    ·subst h;rw[L7 O (by simp[WideAt.IsKeyLit]),Io rfl,<-Y];rfl
    rw[KT (by simpa using λe:i=z=>h e.symm),iO h,W.o i hi];rfl
   have cn:Hid _:=Y;clear Y O L;have y0:=J0 K;have y1:=J1 K;have cv:=io K;have A:∀X,bL wo (wo.alloc X):=λX=>bR.alloc lE _
   have Q:k<maxLen:=by omega
   clear K;go_wp2_with fail;go_at_call 253;refine(b8.o _ (s.th (A _))).mono ?_;rintro e w5 ⟨v1,v3,rfl,R⟩;have l:bL wo w5:=Below.tO (A _) R (by simp);have C:Hid (w5.ownsMap (H:=Unit) prog 3 (plainElem prog 3) (w.1.size+1) k D):=G.o.kept (iq l none) (by simp);have bb:Hid (Below (w.1.size+1) F w5):=Below.tO r.o l (by omega);clear q0 q1 q2 q3 q4 y0 y1 R l A G r
   go_wp2_with (first
    |(at_lookup;go_must (refine wpList_lookup_own_int _ rfl _ _ 110 rfl 3 3 .i64 iK Tryz.underlying110 underlying3 (jj _) (w.1.size+1) k D rfl C.o _ _ rfl (KF underlying3 u) ?_;intro cc j bc;have S:=j.symm.trans b9.o;simp only[Mp,Lit.int.injEq,true_and] at S;subst S;clear j bc))
    |(at_mapUpdate;go_must (refine Ln _ rfl _ _ _ 110 rfl 3 3 iK Tryz.underlying110 (plainElem prog 3) (w.1.size+1) k D rfl C.o Q _ _ _ rfl rfl (KF underlying3 u) _ [] (KH underlying3 ba) ?_;intro w7 T V;have bd:Hid _:=T;have bf:Hid _:=V;clear T V)))
   have bg:Below (w.1.size+1) w5 w7:=bR.grown bf.o (by have:=C.o.lt;omega) (λq hq=>by cases hq;exact Ke _);exact⟨⟨k+1,_,by omega,by go_num,bd,P,bb.o.trans bg⟩,by simp[intOf];omega⟩
  have e:k=N:=by omega
  subst e;have HE:=Z (by rw[<-HN.o,L6]:cs.take k=cs);rw[HE.o] at W;have k1:¬((k:Int)<(k:Int)):=by omega
  have bk:=Z s;have bm:=Z (G.o.mono hn);clear K s r G;go_wp2_with fail;go_ret;exact⟨_,rfl,D,bm.o,W.o,bk.o⟩
theorem zV(B l M D N:Nat)(lv ps f w)(hl:iH B w lv ps)(T:gn ps)(hB:B<=l)(ad:l<=w.1.size)(hn:ps.length<=5000000000)(bg:l<=D)(hG:Hj l M D N f (ik f []) w):
  cL 266 #[lv,.func (.func 267) #[] #[.pointer (sO M),.pointer (sO D),.pointer (sO N)]] w λe O=>e=.returned (.tuple #[])/\Hj l M D N f (ik f (bh ps)) O/\Below l w O:=by
 obtain⟨J,hJ⟩:∃J:List aN->World->Prop,J=λg v=>Hj l M D N f (ik f g) v/\Below l w v:=⟨_,rfl⟩
 have V:Hid (∀g v,J g v->Below l w v):=by rw[hJ];exact λ_ _ h=>h.2
 have bk:Hid (∀g v,J g v->Hj l M D N f (ik f g) v):=by rw[hJ];exact λ_ _ h=>h.1
 have W:Hid (∀g v u,J g v->bL v u->J g u):=by rw[hJ];exact λ_ v u h hb=>⟨h.1.l hb,Below.tO h.2 hb (h.2.u ad)⟩
 have bo:Hid (∀g c v,J g v->bS c=0->g.length<=6000000002500->cL 267 #[.agg #[U c.1,U c.2.1,U c.2.2],.pointer (sO M),.pointer (sO D),.pointer (sO N)] v λe u=>e=.returned (.tuple #[])/\J (g++[c]) u/\Below l v u):=by
  rw[hJ];intro g c v h hc hd;have x:=sP f g
  refine(Dk l M D N f c (ik f g) v h.1 hc bg (h.2.u ad) (by omega)).mono λe u ⟨t,e2,e3⟩=>⟨t,⟨?_,h.2.trans e3⟩,e3⟩
  rw[DB];exact e2
 have bq:Hid (J (bh (ps.take 0)) w):=by rw[hJ];exact⟨hG,Kf _ _⟩
 clear hJ hG;have HL:=Z λO (h:Below l w O)=>hl.l h hB
 have br:=Z T
 have bs:Hid (∀i,(bh (ps.take i)).length<=ps.length*1200):=λi=>by
  have:=jP (ps.take i) λp hp=>T p (KZ hp)
  rw[Kt] at this;have h2:min i ps.length*1200<=ps.length*1200:=Lz _ (by omega);exact Kl this h2
 obtain⟨a,dk,rfl,dl,dn,-⟩:=hl;have dp:=ai;generalize x:ps.length=q at*;have y:=Z x;clear x T;go_enter func266,ntmps266;go_wp2;go_loopw [12] (λiv wr=>∃i:Nat,i<=q/\iv=U i/\Hid (J (bh (ps.take i)) wr)) (λiv _=>q-(intOf iv).toNat)
 case atStart=>exact⟨0,by omega,rfl,bq⟩
 case round=>
  obtain⟨i,hi,rfl,HS⟩:=hrel;have⟨wo,bx⟩:=nM (wr);subst bx;have i0:(0:Int)<=(i:Int):=by omega
  have Y:=V.o _ _ HS.o;have dq:=Y.size
  by_cases dr:i<q
  ·have i1:(i:Int)<(q:Int):=by omega
   obtain⟨p,a0⟩:∃p,ps[i]?=some p:=⟨ps[i]'(by rw[y.o];omega),by simp⟩;have HP:=Z (pj ps i p a0);have⟨z,_,ae⟩:=cY (br.o p (Kb a0));have a1:=Z (cM ae);clear ae;obtain⟨_,_,t,-,-,n⟩:=HL.o _ Y;have⟨b,o,e,ds,bz⟩:=n i p a0;simp at t;obtain⟨rfl,-,-⟩:=t;subst e;clear n;obtain⟨A,d⟩:=p;obtain⟨rv,k0,k1,-,af⟩:=bz;have ak:=Z λO (h:Below l wo O)=>af.l h hB
   obtain⟨a2,c2,bF,P,d1,-⟩:=af;subst bF;simp only[] at z a1 k0 k1 P;have⟨m,hm⟩:=nM (A.length);have a4:=Z hm.symm;rw[<-hm] at k0 P z;simp only[<-hm] at ak;clear hm;have c0:=bs.o i;have⟨D0,ao⟩:=nM (bh (ps.take i));rw[<-ao] at c0 HS HP;clear ao
   have c1:Hid (∀X,J (D0++(A.take 0).flatMap (·.1)) (wo.alloc X)):=λX=>by
    have:=W.o _ _ _ HS.o ((Kf wo.1.size _).alloc lE X)
    simpa using this
   have c4:Hid (∀X,Below l wo (wo.alloc X)):=λX=>bR.alloc (by omega) _
   have c5:Hid (∀j,((A.take j).flatMap (·.1)).length<=1200):=λj=>by
    have:=jg (A.take j) λr hr=>a1.o r (KZ hr)
    rw[Kt,a4.o] at this;omega
   go_wp2;go_loopw [19] (λjv wr=>∃j:Nat,j<=m/\jv=U j/\Hid (J (D0++(A.take j).flatMap (·.1)) wr)/\Below l wo wr) (λjv _=>m-(intOf jv).toNat)
   case atStart=>exact⟨0,by omega,rfl,c1.o _,c4.o _⟩
   case round=>
    obtain⟨j,hj,rfl,E,a5⟩:=hrel;have⟨wj,c7⟩:=nM (wr);subst c7;have j0:(0:Int)<=(j:Int):=by omega
    have e4:=a5.size;have e5:=(V.o _ _ E.o).size
    by_cases e6:j<m
    ·have j1:(j:Int)<(m:Int):=by omega
     obtain⟨r,a7⟩:∃r,A[j]?=some r:=⟨A[j]'(by rw[a4.o];omega),by simp⟩;have a8:=Z (oq A j r a7);have⟨Q,_,F⟩:=dy (a1.o r (Kb a7));have av:=Z (fy F);clear F;obtain⟨_,_,t,-,-,n⟩:=ak.o _ a5;have⟨b3,o3,e,d2,F⟩:=n j r a7;simp at t;obtain⟨rfl,-,-⟩:=t;subst e;clear n;obtain⟨C,vd⟩:=r;obtain⟨cv,q0,q1,-,b0⟩:=F;have b1:=Z λO (h:Below l wj O)=>b0.l h hB
     obtain⟨a3,c3,c8,R,d4,-⟩:=b0;subst c8;simp only[] at Q av q0 q1 R a8;have⟨n3,G⟩:=nM (C.length);have S:=Z G.symm;rw[<-G] at q0 R Q;simp only[<-G] at b1;clear G;have c9:=c5.o j;have⟨D1,H⟩:=nM (D0++(A.take j).flatMap (·.1));have d5:D1.length<=q*1200+1200:=by rw[H,Kj];omega
     rw[<-H] at E;have ca:=Z (by rw[a8.o,H,KI]:D0++(A.take (j+1)).flatMap (·.1)=D1++C);clear H a8 c9
     have cb:Hid (∀X,J (D1++C.take 0) (wj.alloc X)):=λX=>by
      have:=W.o _ _ _ E.o ((Kf wj.1.size _).alloc lE X)
      simpa using this
     have cc:Hid (∀X,Below l wj (wj.alloc X)):=λX=>bR.alloc (by omega) _
     go_wp2;go_loopw [26] (λkv wr=>∃k:Nat,k<=n3/\kv=U k/\Hid (J (D1++C.take k) wr)/\Below l wj wr) (λkv _=>n3-(intOf kv).toNat)
     case atStart=>exact⟨0,by omega,rfl,cb.o _,cc.o _⟩
     case round=>
      obtain⟨k,hk,rfl,I,K⟩:=hrel;have⟨wk,ce⟩:=nM (wr);subst ce;have e8:(0:Int)<=(k:Int):=by omega
      have e9:=K.size;have d6:=(V.o _ _ I.o).size
      by_cases ea:k<n3
      ·have eb:(k:Int)<(n3:Int):=by omega
       obtain⟨c,a9⟩:∃c,C[k]?=some c:=⟨C[k]'(by rw[S.o];omega),by simp⟩;have b6:=Z (xg C k c a9);have b7:=av.o c (Kb a9);obtain⟨_,_,t,-,-,n⟩:=b1.o _ K;obtain⟨b4,ec,e,da,z0,z1,z2,-⟩:=n k c a9;simp at t;obtain⟨rfl,-,-⟩:=t;subst e;clear n;have⟨D2,L⟩:=nM (D1++C.take k);have dc:D2.length<=q*1200+1300:=by rw[L,Kj,Kt];omega
       rw[<-L] at I;have cf:=Z (by rw[b6.o,L,KI]:D1++C.take (k+1)=D2++[c]);clear L b6
       have b8:Hid (∀X,cL 267 #[.agg #[U c.1,U c.2.1,U c.2.2],.pointer (sO M),.pointer (sO D),.pointer (sO N)] (wk.alloc X) λe u=>e=.returned (.tuple #[])/\J (D2++[c]) u/\Below l wk u):=by
        intro X;have h1:=W.o _ _ _ I.o ((Kf wk.1.size _).alloc lE X)
        refine(bo.o D2 c _ h1 b7 (by omega)).mono λe u ⟨t,e2,e3⟩=>⟨t,e2,((Kf l wk).alloc (by omega) X).trans e3⟩
       clear b7;obtain⟨fc,op,v⟩:=c;simp only[] at z0 z1 z2 b8;go_wp2_with (first|(go_at_call 267;go_must (refine(b8.o _).mono ?_;rintro e w2 ⟨rfl,ci,ck⟩)));have cl:Hid (J (D1++C.take (k+1)) w2):=by rw[cf.o];exact ci
       exact⟨⟨k+1,by omega,by go_num,cl,K.trans ck⟩,by simp[intOf];omega⟩
      obtain rfl:k=n3:=by omega
      have s:Hid (J (D0++(A.take (j+1)).flatMap (·.1)) wk):=by have:=I.o;rw[Ki (by rw[S.o];omega),<-ca.o] at this;exact this
      have cn:=a5.trans K;go_wp2;exact⟨⟨j+1,by omega,by go_num,s,cn⟩,by simp[intOf];omega⟩
    obtain rfl:j=m:=by omega
    have s:Hid (J (bh (ps.take (i+1))) wj):=by have:=E.o;rw[Ki (by rw[a4.o];omega)] at this;rw[HP.o];exact this
    go_wp2;exact⟨⟨i+1,by omega,by go_num,s⟩,by simp[intOf];omega⟩
  obtain rfl:i=q:=by omega
  have s:=HS.o;rw[Ki (by rw[y.o];omega)] at s;have HE:=bk.o _ _ s;go_wp2;go_end0;exact⟨rfl,HE,Y⟩
section
open Go.Shelf Go.Sort
theorem Eu{B:Nat}{w b:World}{g cap n nn q:Nat}{os:Array Obj}{ss:List Int}(c:b.ownsRow B 3 1 (.slice (some ⟨g,0,none⟩) n cap) n (ss.map (.int .i64)))(d:Below B w b)(m:B<=b.1.size)(f:B<=g)(e:ss.length=n):
  (putRow (Value.int .i64) (Sort.ahead (grow (putRow (Value.int .i64) (Sort.ahead b nn) g 0 (ss.mergeSort λx y=>decide (x<=y)).toArray) os) q) g 0 (Lib.compact (ss.mergeSort λx y=>decide (x<=y))++List.replicate (n-(Lib.compact (ss.mergeSort λx y=>decide (x<=y))).length) 0).toArray).ownsRow B 3 1 (.slice (some ⟨g,0,none⟩) (Lib.compact (ss.mergeSort λx y=>decide (x<=y))).length cap) (Lib.compact (ss.mergeSort λx y=>decide (x<=y))).length ((Lib.compact (ss.mergeSort λx y=>decide (x<=y))).map (.int .i64))/\
  Below B w (putRow (Value.int .i64) (Sort.ahead (grow (putRow (Value.int .i64) (Sort.ahead b nn) g 0 (ss.mergeSort λx y=>decide (x<=y)).toArray) os) q) g 0 (Lib.compact (ss.mergeSort λx y=>decide (x<=y))++List.replicate (n-(Lib.compact (ss.mergeSort λx y=>decide (x<=y))).length) 0).toArray):=by
 have h:(ss.mergeSort λx y=>decide (x<=y)).length=ss.length:=List.length_mergeSort ss;have o:=Lib.compact_length_le (ss.mergeSort λx y=>decide (x<=y));subst e
 rcases c.2 with ⟨p,_⟩|⟨D,i,r,s,a,t,u,v,z,E⟩
 ·cases p
 cases s;have A:=ownsRow_sortedI (n:=nn) (os:=os) (ts:=ss.mergeSort λx y=>decide (x<=y)) h a t u v z;have l:=Lib.ownsRow_putRow (q:=q) (k:=(Lib.compact (ss.mergeSort λx y=>decide (x<=y))).length) (ys:=Lib.compact (ss.mergeSort λx y=>decide (x<=y))++List.replicate (ss.length-(Lib.compact (ss.mergeSort λx y=>decide (x<=y))).length) 0) A (by simp;omega) (by omega);rw[List.take_left] at l;exact⟨l,Lib.below_putRow (d.grown (grownBy_sortedI _) m (λj C=>by cases C;exact a)) f⟩
theorem aY(w:World)(o:Obj){n:Nat}(h:n=w.1.size):(w.alloc o).1[n]?=some o:=by subst h;exact ah _ _
theorem kH{w:World}(o:Obj){n:Nat}{x:Obj}(h:w.1[n]?=some x):(w.alloc o).1[n]?=some x:=(Below.block ((Kf w.1.size w).alloc lE o) n (KK.1 h).1).trans h
theorem El(f)(w:World):Fp w.1.size w.1.size (w.1.size+1+1) (w.1.size+1+1+1) f (ik f []) (.slice (sO (w.1.size+1)) 1 1)
  ((((w.alloc (.cells #[U f] 3)).alloc (.cells #[U 0] 3)).alloc (.cells #[.slice (sO (w.1.size+1)) 1 1] 179)).alloc (.cells #[U (aO f)] 3)):=by
 refine⟨kH _ (kH _ (kH _ (aY _ _ rfl))),aY _ _ (by simp only[Kg]),kH _ (aY _ _ (by simp only[Kg])),?_,?_,?_⟩
 ·exact⟨rfl,.inr ⟨w.1.size+1,1,#[U 0],rfl,by omega,kH _ (kH _ (aY _ _ (by simp only[Kg]))),Ke _,by rw[ai];omega,rfl,rfl⟩⟩
 ·intro h;have:w.1.size+1=w.1.size:=KG h;omega
 intro h;have:w.1.size+1=w.1.size+1+1+1:=KG h;omega
theorem Ch(B lv ps f w)(hl:iH B w lv ps)(l:gn ps)(hB:B<=w.1.size)(hn:ps.length<=5000000000):
  cL 251 #[lv,U f] w λe i=>∃v,e=.returned v/\i.ownsRow w.1.size 3 1 v (cw ps f).length ((cw ps f).map (.int .i64))/\bL w i:=by
 have S:Hid (∀i,bL w i->Hj w.1.size w.1.size (w.1.size+1+1) (w.1.size+1+1+1) f (ik f []) i->cL 266 #[lv,.func (.func 267) #[] #[.pointer (MZ w),.pointer (sO (w.1.size+1+1)),.pointer (sO (w.1.size+1+1+1))]] i λe G=>e=.returned (.tuple #[])/\Hj w.1.size w.1.size (w.1.size+1+1) (w.1.size+1+1+1) f (ik f (bh ps)) G/\Below w.1.size i G):=
  λi hb hG=>zV B w.1.size _ _ _ lv ps f i (hl.l hb hB) l hB hb.size hn (by omega) hG
 have R:=Z (yi l f);have T:(ik f (bh ps)).length<=13000000000000:=by have h1:=sP f (bh ps);have h2:=jP ps l;omega
 have V:0<(ik f (bh ps)).length:=by simp[ik]
 have⟨b,s⟩:=nM (ik f (bh ps));rw[<-s] at R T V;simp only[<-s] at S;clear s;have H:Hid _:=El f w;have t:Hid (∀X Y Zz Uu,bL w ((((w.alloc X).alloc Y).alloc Zz).alloc Uu)):=λX Y Zz Uu=>(((bR.alloc lE _).alloc (by simp) _).alloc (by simp;omega) _).alloc (by simp;omega) _
 obtain⟨a,ao,rfl,av,b0,-⟩:=hl;generalize ps.length=b1 at*;clear l;go_enter func251,ntmps251
 go_wp2_with (first
  |(go_at_call 73;go_must (refine(sh f _).mono ?_;rintro e w1 ⟨rfl,rfl⟩)))
 refine(S.o _ (t.o _ _ _ _) ⟨_,H.o⟩).mono ?_;rintro e m ⟨rfl,⟨vs,u⟩,I⟩;have p:=(t.o _ _ _ _).trans I;clear S H t I;have k:=u.2.2.2.1
 rcases k.2 with ⟨_,hz⟩|⟨g,c,b2,rfl,W,j,a0,a1,J,K⟩
 ·omega
 have hH:=holds_of_blockI (ss:=b) j (by simpa [jW] using K);have L:=io j;have a3:=p.size;have d:=u.2.2.1;have z0:=J0 d;have a4:=Z k;have z:(b.mergeSort λx y=>decide (x<=y)).length=b.length:=List.length_mergeSort _;have r:Hid (cL 209 #[.slice (sO g) b.length c] m λe i=>e=.returned (.tuple #[])/\∃n h,i=grow (putRow (Value.int .i64) (Sort.ahead m n) g 0 (b.mergeSort λx y=>decide (x<=y)).toArray) h):=Tryz.slices_Sort_int g 0 c b m hH L (by omega)
 have M:Hid (∀n h,Holds (Value.int .i64) (grow (putRow (Value.int .i64) (Sort.ahead m n) g 0 (b.mergeSort λx y=>decide (x<=y)).toArray) h) g 0 (b.mergeSort λx y=>decide (x<=y)).toArray/\(grow (putRow (Value.int .i64) (Sort.ahead m n) g 0 (b.mergeSort λx y=>decide (x<=y)).toArray) h).cell? (pA (w.1.size+1+1) 0)=some (.slice (sO g) b.length c)):=by
  intro n h;refine⟨holds_grow (Value.int .i64) _ h g 0 _ (by simpa [putRow,mapBlock,Sort.ahead] using L) (holds_putRow (Value.int .i64) _ g 0 _ _ (holds_ahead (Value.int .i64) m n g 0 _ hH) (by simp[z])),?_⟩;have a5:=grownBy_sortedI (w:=m) (g:=g) (n:=n) (os:=h) (b.mergeSort λx y=>decide (x<=y)).toArray;refine J0 ((a5.block (w.1.size+1+1) (io d) λe=>?_).trans d);have e':=KG e;rw[<-e'] at j;rw[d] at j
  cases j
 have A:Hid (∀C,Holds (Value.int .i64) C g 0 (b.mergeSort λx y=>decide (x<=y)).toArray->cL 268 #[.slice (sO g) b.length c] C λe i=>e=.returned (.slice (sO g) (Lib.compact (b.mergeSort λx y=>decide (x<=y))).length c)/\∃q,i=putRow (Value.int .i64) (Sort.ahead C q) g 0 (Lib.compact (b.mergeSort λx y=>decide (x<=y))++List.replicate (b.length-(Lib.compact (b.mergeSort λx y=>decide (x<=y))).length) 0).toArray):=by intro C h6;have:=Tryz.slices_Compact_int g 0 c (b.mergeSort λx y=>decide (x<=y)) C h6 (by omega) (by omega);rw[z] at this;exact this
 have HL:Hid (∀n h q,(putRow (Value.int .i64) (Sort.ahead (grow (putRow (Value.int .i64) (Sort.ahead m n) g 0 (b.mergeSort λx y=>decide (x<=y)).toArray) h) q) g 0 (Lib.compact (b.mergeSort λx y=>decide (x<=y))++List.replicate (b.length-(Lib.compact (b.mergeSort λx y=>decide (x<=y))).length) 0).toArray).ownsRow w.1.size 3 1 (.slice (sO g) (cw ps f).length c) (cw ps f).length ((cw ps f).map (.int .i64))/\
  bL w (putRow (Value.int .i64) (Sort.ahead (grow (putRow (Value.int .i64) (Sort.ahead m n) g 0 (b.mergeSort λx y=>decide (x<=y)).toArray) h) q) g 0 (Lib.compact (b.mergeSort λx y=>decide (x<=y))++List.replicate (b.length-(Lib.compact (b.mergeSort λx y=>decide (x<=y))).length) 0).toArray)):=by
  intro n h q;have:=Eu (nn:=n) (q:=q) (os:=h) a4.o p a3 W rfl;rw[<-R.o];exact this
 have N:=Z (by rw[R.o]:(Lib.compact (b.mergeSort λx y=>decide (x<=y))).length=(cw ps f).length);rw[N.o] at A;clear k j J K hH u d z R;go_wp2_with fail;go_at_call 209;refine r.o.mono ?_;rintro e C ⟨rfl,n6,O,D⟩;have⟨E,z6⟩:=M.o n6 O;have F:Hid _:=HL.o n6 O;rw[<-D] at E z6;simp only[<-D] at F;have a6:Hid _:=E;clear D HL M r z0 E;go_wp2_with fail;go_at_call 268;refine(A.o C a6.o).mono ?_;rintro e w7 ⟨rfl,q7,P⟩;have o:=F.o q7;rw[N.o] at o;rw[<-P] at o;have Q:Hid _:=o;clear P F o A z6;go_wp2_with fail;go_ret;exact⟨_,rfl,Q.o.1,Q.o.2⟩
end
