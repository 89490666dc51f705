/- Joined: Rec1 NtP Dsk0 Chn1 Kep0 Mee3 Mee4 Mee5 Mee7 Mee8 PtD3 PtD4 NtK. -/
import Derived.Test.YtnpdhopjpjickaaGreatDoorWj13
import Derived.Test.YtnpdhopjpjickaaGreatDoorWj11
import Derived.Test.YtnpdhopjpjickaaGreatDoorWj17
import Derived.Test.YtnpdhopjpjickaaGreatDoorWj03
import Derived.Test.YtnpdhopjpjickaaGreatDoorWj01
import Derived.Test.YtnpdhopjpjickaaGreatDoorWj19
import Derived.Test.YtnpdhopjpjickaaGreatDoorWj20
import Derived.Test.YtnpdhopjpjickaaGreatDoorWj18
import Derived.Test.YtnpdhopjpjickaaGreatDoorWj04
import Derived.Test.YtnpdhopjpjickaaGreatDoorWj12
import Derived.Test.YtnpdhopjpjickaaGreatDoorWj08
section
set_option linter.all false
set_option maxRecDepth 100000
namespace Go.Proofs.YtnpdhopjpjickaaGreatDoor
open Go.RowKit Go.Maps
def ud (B:Nat) (w:World) (b o:Nat) (r:al):Prop:=
 ∃ a,w.cell? ⟨b,o,none⟩=some (.int .i64 r.1)/\w.cell? ⟨b,o+1,none⟩=some (.int .i64 r.2.1)/\w.cell? ⟨b,o+2,none⟩=some (.int .i64 r.2.2.1)/\w.cell? ⟨b,o+3,none⟩=some a/\w.cell? ⟨b,o+4,none⟩=some (.int .i64 r.2.2.2.2)/\
  cV B w (.agg #[.int .i64 r.1,.int .i64 r.2.1,.int .i64 r.2.2.1,a,.int .i64 r.2.2.2.2]) r
def bX (B:Nat) (w:World) (v:Value) (d:List al):Prop:=
 ∃ a c,v=.slice a d.length c/\d.length<=c/\c<=maxLen/\∀ i r,d[i]?=some r->∃ b o,a=some ⟨b,o,none⟩/\b<B/\ud B w b (o+i*5) r
theorem ud.later {B d:Nat} {w w':World} {b o:Nat} {r:al} (h:ud B w b o r) (c:Below d w w') (e:B<=d) (n:b<B):ud B w' b o r:=by
 obtain⟨f,g,i,j,k,l,m⟩:=h
 have a:b<d:=by omega
 exact⟨f,(c.cell (p:=⟨b,o,none⟩) a).trans g,(c.cell (p:=⟨b,o+1,none⟩) a).trans i,(c.cell (p:=⟨b,o+2,none⟩) a).trans j,(c.cell (p:=⟨b,o+3,none⟩) a).trans k,(c.cell (p:=⟨b,o+4,none⟩) a).trans l,m.later c e⟩
theorem bX.later {B f:Nat} {w w':World} {v:Value} {g:List al} (h:bX B w v g) (l:Below f w w') (m:B<=f):bX B w' v g:=by
 obtain⟨a,d,n,p,q,r⟩:=h
 refine⟨a,d,n,p,q,λi c s=>?_⟩
 obtain⟨b,o,e,j,k⟩:=r i c s
 exact⟨b,o,e,j,k.later l m j⟩
theorem kF {B k:Nat} {w:World} {v:Value} {r:al} (h:cV B w v r) (Q:B<=k):cV k w v r:=by
 obtain⟨l,m,n,p,q,f,e,s,a,g,t,u,x,y⟩:=h
 refine⟨l,m,n,p,q,f,e,s,a,g,t,u,x,λi r z=>?_⟩
 obtain⟨b,o,A,R,C,D,E,F,G,d,H,I,J,K⟩:=y i r z
 refine⟨b,o,A,by omega,C,D,E,F,G,d,H,I,J,λj c L=>?_⟩
 obtain⟨M,N,O,S,P⟩:=K j c L
 exact⟨M,N,O,by omega,P⟩
theorem bX.wide {B d:Nat} {w:World} {v:Value} {f:List al} (h:bX B w v f) (g:B<=d):bX d w v f:=by
 obtain⟨a,c,j,k,l,m⟩:=h
 refine⟨a,c,j,k,l,λi r n=>?_⟩
 obtain⟨b,o,e,p,q,s,t,u,x,y,z⟩:=m i r n
 exact⟨b,o,e,Nat.lt_of_lt_of_le p g,q,s,t,u,x,y,kF z g⟩
end Go.Proofs.YtnpdhopjpjickaaGreatDoor
end
section
set_option linter.all false
namespace Go.Proofs.YtnpdhopjpjickaaGreatDoor
def fh (s:Bs):al × Int:=if 60000<s.length then (cr,2) else dS s
end Go.Proofs.YtnpdhopjpjickaaGreatDoor
end
section
set_option linter.all false
namespace Go.Proofs.YtnpdhopjpjickaaGreatDoor
def fU:Bs->Option (Bs × Bs)
 | []=>none
 | b :: l=>if b=10 then some ([],l) else match fU l with
  | none=>none
  | some (a,t)=>some (b :: a,t)
theorem p6:∀ (a t:Bs),(10:UInt8) ∉ a->fU (a++10 :: t)=some (a,t)
 | [],t,_=>rfl
 | b :: a,t,h=>by
  have c:b≠10:=λe=>h (by simp[e])
  show (if b=10 then some ([],a++10 :: t) else match fU (a++10 :: t) with | none=>none | some (a,t)=>some (b :: a,t))=_
  rw[if_neg c,p6 a t λe=>h (by simp[e])]
theorem sS:∀ (a:Bs),(10:UInt8) ∉ a->fU a=none
 | [],_=>rfl
 | b :: a,h=>by
  have c:b≠10:=λe=>h (by simp[e])
  show (if b=10 then some ([],a) else match fU a with | none=>none | some (a,t)=>some (b :: a,t))=_
  rw[if_neg c,sS a λe=>h (by simp[e])]
theorem gm:∀ {s a t:Bs},fU s=some (a,t)->s=a++10 :: t/\(10:UInt8) ∉ a
 | [],a,t,h=>by cases h
 | b :: s,a,t,h=>by
  have c:(if b=10 then some ([],s) else match fU s with | none=>none | some (a,t)=>some (b :: a,t))=some (a,t):=h
  by_cases d:b=10
  ·rw[if_pos d] at c
   cases c
   exact⟨by rw[d];rfl,by simp⟩
  ·rw[if_neg d] at c
   cases hc:fU s with
   | none=>rw[hc] at c;cases c
   | some x=>
    obtain⟨g,i⟩:=x
    rw[hc] at c
    cases c
    obtain⟨e,f⟩:=gm hc
    exact⟨by rw[e];rfl,by simp;exact⟨λe=>d e.symm,f⟩⟩
theorem rJ {s:Bs} (h:fU s=none):(10:UInt8) ∉ s:=by
 intro c
 obtain⟨a,t,e,d⟩:∃ a t,s=a++10 :: t/\(10:UInt8) ∉ a:=by
  clear h
  induction s with
  | nil=>cases c
  | cons b s g=>
   by_cases f:b=10
   ·exact⟨[],s,by rw[f];rfl,by simp⟩
   ·rcases List.mem_cons.1 c with e | c
    ·exact absurd e.symm f
    ·obtain⟨a,t,e,d⟩:=g c
     exact⟨b :: a,t,by rw[e];rfl,by simp;exact⟨λe=>f e.symm,d⟩⟩
 rw[e,p6 a t d] at h
 cases h
theorem mE {s a t:Bs} (h:fU s=some (a,t)):s.length=a.length+1+t.length:=by
 rw[(gm h).1]
 simp
 omega
def it:Nat->Bs->List Bs
 | 0,s=>[s]
 | k+1,s=>match fU s with
  | none=>[s]
  | some (a,t)=>(a++[10]) :: it k t
def jS (aF:Nat):List Bs->List al × Nat × Int
 | []=>([],0,0)
 | t :: a=>if t=[] then ([],0,0) else if t.getLast?=some 10 then
   (if (dS t.dropLast).2=0 then
    (match aF with
     | 0=>([],0,2)
     | m+1=>((dS t.dropLast).1 :: (jS m a).1,t.length+(jS m a).2.1,(jS m a).2.2))
    else ([],0,(dS t.dropLast).2)) else ([],0,8)
def aI (aF:Nat) (s:Bs):List al × Nat × Int:=jS aF (it s.length s)
theorem pM:∀ (k j:Nat) (s:Bs),s.length<=k->s.length<=j->it k s=it j s
 | 0,0,s,_,_=>rfl
 | 0,j+1,s,h,_=>by
  obtain rfl:s=[]:=List.eq_nil_of_length_eq_zero (by omega)
  rfl
 | k+1,0,s,_,h=>by
  obtain rfl:s=[]:=List.eq_nil_of_length_eq_zero (by omega)
  rfl
 | k+1,j+1,s,b,c=>by
  unfold it
  cases h:fU s with
  | none=>rfl
  | some x=>
   obtain⟨a,t⟩:=x
   have:=mE h
   simp only
   rw[pM k j t (by omega) (by omega)]
theorem i9 (aF:Nat):aI aF []=([],0,0):=by
 unfold aI it jS
 simp
theorem ip (aF:Nat) (a t:Bs) (h:(10:UInt8) ∉ a):aI aF (a++10 :: t)=(if (dS a).2=0 then (match aF with | 0=>([],0,2) | m+1=>((dS a).1 :: (aI m t).1,a.length+1+(aI m t).2.1,(aI m t).2.2)) else ([],0,(dS a).2)):=by
 unfold aI
 have b:(a++10 :: t).length=(a.length+t.length)+1:=by simp;omega
 rw[b]
 conv=>lhs;unfold it
 rw[p6 a t h]
 simp only
 rw[pM (a.length+t.length) t.length t (by omega) (Nat.le_refl _)]
 conv=>lhs;unfold jS
 rw[if_neg (by simp),if_pos (by simp)]
 simp
theorem lC (aF:Nat) (s:Bs) (h:(10:UInt8) ∉ s) (a:s≠[]):aI aF s=([],0,8):=by
 unfold aI
 obtain⟨k,c⟩:∃ k,s.length=k+1:=by
  cases s with
  | nil=>exact absurd rfl a
  | cons b l=>exact⟨l.length,rfl⟩
 rw[c]
 unfold it
 rw[sS s h]
 simp only
 unfold jS
 rw[if_neg a,if_neg]
 intro e
 exact h (List.mem_of_getLast? e)
end Go.Proofs.YtnpdhopjpjickaaGreatDoor
end
section
set_option linter.all false
namespace Go.Proofs.YtnpdhopjpjickaaGreatDoor
theorem Av {a:gf} {p q:ap} (h:dm a p q=0) {x:Nat->Int} (l:dw x=0):eC a p q=a++[cO (eE p q)]/\ik a x=0/\ik (eC a p q) x=0/\j8 (eC a p q) x<=j8 a x:=by
 have n:eC a p q=a++[cO (eE p q)]:=by rw[eC,if_pos h]
 unfold dm at h
 split at h
 ·rename_i g
  split at h
  ·rename_i i
   split at h
   ·cases h
   ·rename_i o
    obtain⟨-,-,-,-,-,r,s,-,m⟩:=sR i
    have j:bt (cO (eE p q))=0:=by
     rw[lH m]
     unfold du at h
     rw[if_pos m] at h
     exact h
    have k:aZ (a++[cO (eE p q)])=0:=by
     obtain⟨t,c⟩:=dN.1 g
     refine dN.2 ⟨by simp;omega,λf b=>?_⟩
     rcases List.mem_append.1 b with b | b
     ·exact c f b
     ·simp at b
      rw[b]
      exact j
    have d:ik a x=0:=by rw[ik,if_pos g];exact l
    have e:ik (a++[cO (eE p q)]) x=0:=by rw[ik,if_pos k];exact l
    rw[n]
    refine⟨rfl,d,e,?_⟩
    rw[j8,if_pos e,j8,if_pos d,up]
    omega
  ·rename_i i
   exact absurd h i
 ·rename_i g
  exact absurd h g
end Go.Proofs.YtnpdhopjpjickaaGreatDoor
end
section
set_option linter.all false
set_option maxRecDepth 100000
namespace Go.Proofs.YtnpdhopjpjickaaGreatDoor
abbrev ay:=Bool × gf × ap
instance decCell:DecidableEq ay:=@instDecidableEqProd _ _ inferInstance (@instDecidableEqProd _ _ (inferInstance:DecidableEq gf) BL)
def aV:ay:=(false,[],[],0)
def cF (c:ay):Int:=if c.1≠decide (0<c.2.1.length)\/(c.1=false/\¬(c.2.2.2=0/\c.2.2.1=[])) then 4 else if c.1=false then 0 else if aZ c.2.1=0 then ae c.2.2 else aZ c.2.1
def dG:List ay->Int
 | []=>0
 | c :: r=>if cF c=0 then dG r else cF c
def cB (l:List ay):Int:=if l.length=4 then dG l else 4
theorem oS:∀ {l:List ay},dG l=0 ↔ ∀ c∈l,cF c=0
 | []=>by simp[dG]
 | c :: r=>by
  unfold dG
  by_cases h:cF c=0
  ·rw[if_pos h,oS]
   simp[h]
  ·rw[if_neg h]
   constructor
   ·intro a
    exact absurd a h
   ·intro a
    exact absurd (a c (by simp)) h
theorem r8 (l:List ay) (k:Nat) (c:ay) (h:l[k]?=some c):dG (l.drop k)=if cF c=0 then dG (l.drop (k+1)) else cF c:=by
 obtain⟨a,rfl⟩:=List.getElem?_eq_some_iff.1 h
 rw[List.drop_eq_getElem_cons a]
 rfl
theorem gu {l:List ay}:cB l=0 ↔ l.length=4/\∀ c∈l,cF c=0:=by
 unfold cB
 by_cases h:l.length=4
 ·rw[if_pos h,oS]
  simp[h]
 ·rw[if_neg h]
  constructor
  ·intro a
   omega
  ·intro a
   exact absurd a.1 h
def aQ (l:List ay) (k:Int):ay:=l.getD k.toNat aV
def f8 (p:ap):ay × Int:=if du p=0 then ((true,[cO p],p),0) else (aV,du p)
def f7 (l:List ay) (r:al):ay × Int:=
 if r.1=3 then (if (aQ l r.2.2.1).1=true then f8 (aQ l r.2.2.1).2.2 else (aV,5))
 else if r.1=1 then f8 r.2.2.2
 else if r.1=2 then (if dm (aQ l r.2.1).2.1 (aQ l r.2.1).2.2 r.2.2.2=0 then ((true,eC (aQ l r.2.1).2.1 (aQ l r.2.1).2.2 r.2.2.2,r.2.2.2),0) else (aV,dm (aQ l r.2.1).2.1 (aQ l r.2.1).2.2 r.2.2.2))
 else (aV,0)
def dj (l:List ay) (r:al):Int:=if cB l=0 then (if bF r=0 then (if decide (r.1=1\/r.1=3)=(aQ l r.2.1).1 then 6 else (f7 l r).2) else bF r) else cB l
def ez (l:List ay) (r:al):List ay:=if dj l r=0 then l.set r.2.1.toNat (f7 l r).1 else []
def aA:List ay:=[aV,aV,aV,aV]
def d9 (s:List ay × Int) (r:al):List ay × Int:=if s.2=0 then (if dj s.1 r=0 then (ez s.1 r,0) else ([],dj s.1 r)) else s
def aK (a:List al):List ay × Int:=if 40<a.length then ([],2) else a.foldl d9 (aA,0)
theorem qw:∀ (a:List al) (e:Int),e≠0->a.foldl d9 ([],e)=([],e)
 | [],_,_=>rfl
 | r :: a,e,h=>by
  rw[List.foldl_cons]
  have:d9 ([],e) r=([],e):=by unfold d9;rw[if_neg h]
  rw[this]
  exact qw a e h
theorem mz {l:List ay} {r:al} (h:dj l r=0):cB l=0/\bF r=0/\decide (r.1=1\/r.1=3)≠(aQ l r.2.1).1/\(f7 l r).2=0:=by
 unfold dj at h
 by_cases a:cB l=0
 ·rw[if_pos a] at h
  by_cases b:bF r=0
  ·rw[if_pos b] at h
   by_cases c:decide (r.1=1\/r.1=3)=(aQ l r.2.1).1
   ·rw[if_pos c] at h;cases h
   ·rw[if_neg c] at h
    exact⟨a,b,c,h⟩
  ·rw[if_neg b] at h
   exact absurd h b
 ·rw[if_neg a] at h
  exact absurd h a
theorem oO {l:List ay} {r:al} (h:dj l r=0):ez l r=l.set r.2.1.toNat (f7 l r).1:=by rw[ez,if_pos h]
def sZ (c:ay):Prop:=cF c=0/\(c.1=true->∀ x:Nat->Int,dw x=0->fg x 4 c.2.1=vP c.2.2 x)
theorem kO {c:ay} (h:cF c=0) (e:c.1=true):aZ c.2.1=0/\ae c.2.2=0/\0<c.2.1.length:=by
 unfold cF at h
 split at h
 ·cases h
 ·rename_i d
  rw[e] at h d
  rw[if_neg (by simp)] at h
  have a:0<c.2.1.length:=by
   by_cases a:0<c.2.1.length
   ·exact a
   ·exact absurd (.inl (by simp[a])) d
  split at h
  ·rename_i b
   exact⟨b,h,a⟩
  ·rename_i b
   exact absurd h b
theorem vL {c:ay} (h:cF c=0) (e:c.1=false):c=aV:=by
 obtain⟨o,f,m,d⟩:=c
 simp only at e
 subst e
 unfold cF at h
 split at h
 ·cases h
 ·rename_i g
  simp only[ne_eq,true_and,not_or,Decidable.not_not] at g
  obtain⟨i,j,k⟩:=g
  have l:f=[]:=by
   cases f with
   | nil=>rfl
   | cons a b=>simp at i
  subst l j k
  rfl
theorem ro {c:ay} (a:c.1=true) (b:aZ c.2.1=0) (d:ae c.2.2=0) (e:0<c.2.1.length):cF c=0:=by
 unfold cF
 rw[if_neg (by rw[a];simp;exact List.ne_nil_of_length_pos e),if_neg (by rw[a];simp),if_pos b,d]
theorem zP:sZ aV:=⟨by decide,λh=>by cases h⟩
theorem xm {p:ap} (h:du p=0):ae p=0/\bt (cO p)=0:=by
 unfold du at h
 split at h
 ·rename_i a
  refine⟨a,?_⟩
  rw[lH a]
  exact h
 ·rename_i a
  exact absurd h a
theorem wh {p:ap} (a:ae p=0) {x:Nat->Int} (b:dw x=0):fg x 4 [cO p]=vP p x:=by
 show (if (df x 0 0 (cO p)).1<4 then (df x 0 0 (cO p)).1 else 4)=vP p x
 rw[xg a b]
 have c:(cm p x).1=vP p x:=rfl
 have:=A2 a b
 rw[c]
 split<;>omega
theorem A4 {p:ap} (h:(f8 p).2=0):f8 p=((true,[cO p],p),0)/\sZ (true,[cO p],p)/\du p=0:=by
 unfold f8 at h |-
 by_cases a:du p=0
 ·obtain⟨c,b⟩:=xm a
  rw[if_pos a]
  refine⟨rfl,⟨ro rfl (dN.2 ⟨by simp,λf d=>?_⟩) c (by simp),λ_ x e=>wh c e⟩,a⟩
  simp at d
  rw[d]
  exact b
 ·rw[if_neg a] at h
  exact absurd h a
theorem u9 {a:gf} {p q:ap} (h:dm a p q=0):aZ a=0/\aZ (eC a p q)=0/\eC a p q=a++[cO (eE p q)]/\ae q=0/\bz [q,p]=0/\dE q p=none/\∀ x,dw x=0->fg x 4 a=vP p x->fg x 4 (eC a p q)=vP q x:=by
 have o:eC a p q=a++[cO (eE p q)]:=by rw[eC,if_pos h]
 unfold dm at h
 split at h
 ·rename_i g
  split at h
  ·rename_i i
   split at h
   ·cases h
   ·rename_i v
    obtain⟨c,k,-,-,-,r,n,-,s⟩:=sR i
    have l:=(xm h).2
    have m:aZ (a++[cO (eE p q)])=0:=by
     obtain⟨w,d⟩:=dN.1 g
     refine dN.2 ⟨by simp;omega,λf b=>?_⟩
     rcases List.mem_append.1 b with b | b
     ·exact d f b
     ·simp at b
      rw[b]
      exact l
    rw[o]
    refine⟨g,m,rfl,n,c,k,λx j t=>?_⟩
    obtain⟨u,e⟩:=ya i j
    rw[up,t,wh s j,e]
    have:=A2 r j
    have:=A2 n j
    split<;>omega
  ·rename_i i
   exact absurd h i
 ·rename_i g
  exact absurd h g
def p9 (l:List ay):Prop:=l.length=4/\∀ c∈l,sZ c
theorem xS:p9 aA:=⟨rfl,λc a=>by
 simp[aA] at a
 rw[a]
 exact zP⟩
theorem sA {l:List ay} {k:Int} (h:l.length=4) (b:0<=k/\k<=3):aQ l k∈l:=by
 have a:k.toNat<l.length:=by omega
 unfold aQ
 rw[List.getD_eq_getElem?_getD,List.getElem?_eq_getElem a]
 simp
theorem p7 {r:al} (h:bF r=0):(0<=r.2.1/\r.2.1<=3)/\0<=r.2.2.1/\r.2.2.1<=3:=by
 obtain⟨_,b,a,_⟩:=gY h
 exact⟨b,a.1,a.2⟩
theorem AH {l:List ay} {r:al} (j:p9 l) (h:dj l r=0):sZ (f7 l r).1:=by
 obtain⟨u,n,f,a⟩:=mz h
 obtain⟨o,v⟩:=p7 n
 unfold f7 at a |-
 by_cases g:r.1=3
 ·rw[if_pos g] at a |-
  by_cases c:(aQ l r.2.2.1).1=true
  ·rw[if_pos c] at a |-
   obtain⟨e,b,-⟩:=A4 a
   rw[e]
   exact b
  ·rw[if_neg c] at a
   cases a
 ·rw[if_neg g] at a |-
  by_cases i:r.1=1
  ·rw[if_pos i] at a |-
   obtain⟨e,b,-⟩:=A4 a
   rw[e]
   exact b
  ·rw[if_neg i] at a |-
   by_cases k:r.1=2
   ·rw[if_pos k] at a |-
    by_cases d:dm (aQ l r.2.1).2.1 (aQ l r.2.1).2.2 r.2.2.2=0
    ·rw[if_pos d]
     have c:(aQ l r.2.1).1=true:=by
      have:decide (r.1=1\/r.1=3)=false:=by simp[i,g]
      rw[this] at f
      cases hb:(aQ l r.2.1).1 with
      | true=>rfl
      | false=>rw[hb] at f;exact absurd rfl f
     obtain⟨w,p,q,s,-,-,t⟩:=u9 d
     have b:=j.2 _ (sA j.1 o)
     exact⟨ro rfl p s (by rw[q];simp),λ_ x m=>t x m (b.2 c x m)⟩
    ·rw[if_neg d] at a
     exact absurd a d
   ·rw[if_neg k]
    exact zP
theorem p9.next {l:List ay} {r:al} (b:p9 l) (h:dj l r=0):p9 (ez l r):=by
 rw[oO h]
 refine⟨by simpa using b.1,λc a=>?_⟩
 rcases List.mem_or_eq_of_mem_set a with a | a
 ·exact b.2 c a
 ·rw[a]
  exact AH b h
theorem pZ:∀ (b:List al) (s:List ay × Int),(s.2=0->p9 s.1)->(b.foldl d9 s).2=0->p9 (b.foldl d9 s).1
 | [],s,e,h=>e h
 | r :: b,s,e,h=>by
  rw[List.foldl_cons] at h |-
  refine pZ b _ (λa=>?_) h
  unfold d9 at a |-
  by_cases c:s.2=0
  ·rw[if_pos c] at a |-
   by_cases d:dj s.1 r=0
   ·rw[if_pos d]
    exact (e c).next d
   ·rw[if_neg d] at a
    exact absurd a d
  ·rw[if_neg c] at a
   exact absurd a c
theorem kJ {a:List al} (h:(aK a).2=0):p9 (aK a).1:=by
 unfold aK at h |-
 split at h
 ·cases h
 ·rename_i b
  rw[if_neg b]
  exact pZ a _ (λ_=>xS) h
theorem Dv {c:ay} (h:sZ c) (d:c.1=true) {x:Nat->Int} (b:dw x=0):ik c.2.1 x=0/\j8 c.2.1 x=vP c.2.2 x/\cm c.2.2 x=(vP c.2.2 x,(cm c.2.2 x).2.1,0):=by
 obtain⟨e,f,-⟩:=kO h.1 d
 have a:ik c.2.1 x=0:=by rw[ik,if_pos e];exact b
 exact⟨a,by rw[j8,if_pos a];exact h.2 d x b,xC f b⟩
theorem Ap {l:List ay} {r:al} (h:dj l r=0) {k:Nat} (a:(k:Int)≠r.2.1):(ez l r)[k]?=l[k]?:=by
 rw[oO h]
 have:=(p7 (mz h).2.1).1
 exact List.getElem?_set_ne (by omega)
theorem Cc {l:List ay} {r:al} (h:dj l r=0):(ez l r)[r.2.1.toNat]?=some (f7 l r).1:=by
 rw[oO h]
 have:=(p7 (mz h).2.1).1
 have:=(gu.1 (mz h).1).1
 exact List.getElem?_set_self (by omega)
theorem zD {l:List ay} {r:al} (s:p9 l) (h:dj l r=0) (f:(aQ l r.2.1).1=true) (a:(f7 l r).1.1=true) {x:Nat->Int} (g:dw x=0):
  ik (aQ l r.2.1).2.1 x=0/\ik (f7 l r).1.2.1 x=0/\j8 (f7 l r).1.2.1 x<=j8 (aQ l r.2.1).2.1 x/\(f7 l r).1.2.1.length=(aQ l r.2.1).2.1.length+1/\bz [(f7 l r).1.2.2,(aQ l r.2.1).2.2]=0/\dE (f7 l r).1.2.2 (aQ l r.2.1).2.2=none:=by
 obtain⟨t,u,d,b⟩:=mz h
 have i:decide (r.1=1\/r.1=3)=false:=by
  rw[f] at d
  cases hb':decide (r.1=1\/r.1=3) with
  | true=>rw[hb'] at d;exact absurd rfl d
  | false=>rfl
 have j:¬(r.1=1\/r.1=3):=of_decide_eq_false i
 unfold f7 at b a |-
 rw[if_neg (by omega),if_neg (by omega)] at b a |-
 by_cases e:r.1=2
 ·rw[if_pos e] at b a |-
  by_cases c:dm (aQ l r.2.1).2.1 (aQ l r.2.1).2.2 r.2.2.2=0
  ·rw[if_pos c]
   obtain⟨v,w,k,y,m,n,z⟩:=u9 c
   obtain⟨A,o,p,q⟩:=Av c g
   exact⟨o,p,q,by simp only;rw[k];simp,m,n⟩
  ·rw[if_neg c] at b
   exact absurd b c
 ·rw[if_neg e] at a
  cases a
end Go.Proofs.YtnpdhopjpjickaaGreatDoor
end
section
set_option linter.all false
set_option maxRecDepth 100000
namespace Go.Proofs.YtnpdhopjpjickaaGreatDoor
open Go.RowKit Go.Maps
theorem rL (a:Bool) (p q:ap):ir a (p.1++[([],p.2)]) (q.1++[([],q.2)])=gO a p q++[([],p8 a p.2 q.2)]:=by
 unfold ir gO
 simp[fL,List.flatMap_append]
theorem yr (a:Bool) (p q:ap):(gO a p q).length+1=(p.1.length+1)*(q.1.length+1):=by
 have h:=pu a (q.1++[([],q.2)]) (p.1++[([],p.2)])
 rw[rL] at h
 simpa using h
set_option maxHeartbeats 2000000 in
theorem kX (B:Nat) (rv:Value) (j:List ai) (d:Int) (w:World) (h:be B w rv j) (F:wf d) (G:B<=w.heap.size) (H:j.length<=120):
  Calls Tryz.prog 263 #[.agg #[rv,.int .i64 d]] w λe k=>∃ v,e=.returned v/\∃ p,k.ownsRow w.heap.size 142 2 v (j++[(([]:List aB),d)]).length p/\jP B k p (j++[([],d)])/\Below w.heap.size w k:=by
 have s:Hid (∀ k,Below w.heap.size w k->gV B k rv j):=λk I=>(h.later I G).conds
 obtain⟨t,u,J,-,-,-⟩:=h
 subst J
 obtain⟨n,l⟩:∃ n,n=j.length:=⟨_,rfl⟩
 rw[<-l] at H s |-
 have K:=hid l.symm
 clear l
 obtain⟨f,a⟩:∃ f,f=((w.alloc (.cells #[.slice t n u,.int .i64 d] 30)).alloc (.cells #[.slice none 0 0,.int .i64 d] 142)).alloc (.cells #[.slice t n u,.slice (some ⟨w.heap.size+1,0,none⟩) 1 1] 28):=⟨_,rfl⟩
 have b:Below w.heap.size w f:=by rw[a];exact (((Below.refl _ _).alloc (Nat.le_refl _) _).alloc (by simp) _).alloc (by simp;omega) _
 have x:f.heap[w.heap.size+1]?=some (.cells #[.slice none 0 0,.int .i64 d] 142 (0,0)):=by
  rw[a]
  exact bM _ (bE _ _ (by simp only[World.size_alloc]))
 have q:f.heap[w.heap.size+1+1]?=some (.cells #[.slice t n u,.slice (some ⟨w.heap.size+1,0,none⟩) 1 1] 28 (0,0)):=by
  rw[a]
  exact bE _ _ (by simp only[World.size_alloc])
 have g:gV B f (.slice (some ⟨w.heap.size+1,0,none⟩) 1 1) [([],d)]:=by
  refine⟨_,1,rfl,Nat.le_refl _,by rw[ag];omega,λi r y=>?_⟩
  have L:i=0:=by
   have:=(List.getElem?_eq_some_iff.1 y).1
   simpa using this
  subst L
  simp at y
  subst y
  exact⟨_,_,rfl,.slice none 0 0,ab x 0 rfl,ab x 1 rfl,F,none,0,rfl,Nat.le_refl _,by rw[ag];omega,λi c h=>by simp at h⟩
 have C:=wS B _ _ j [([],d)] (w.heap.size+1+1) f (s.out f b) g (by have:=b.size;omega) (lt_of_block q) (ab q 0 rfl) (ab q 1 rfl) (by rw[K.out];simp;omega)
 have z:Hid _:=C
 have M:=hid a
 have m:=hid b
 clear C a b x q g s
 go_enter Tryz.func263,Tryz.ntmps263
 go_wp2_with fail
 rw[<-M.out]
 go_at_call 283
 refine Calls.mono z.out ?_
 rintro e P ⟨v,rfl,p,D,E,o⟩
 have N:=hid D
 have O:=hid E
 have A:=hid o
 clear D E o
 go_wp2_with fail
 go_ret
 exact⟨_,rfl,p,cK N.out m.out.size,O.out,Below.thenOf m.out A.out m.out.size⟩
theorem og {B:Nat} {w:World} {a:Option Addr} {n c:Nat} {d:List ai} (h:be B w (.slice a n c) d) (m:Nat) (f:m<=d.length):be B w (.slice a m c) (d.take m):=by
 obtain⟨k,l,e,o,g,j⟩:=h
 simp at e
 obtain⟨rfl,rfl,rfl⟩:=e
 refine⟨a,c,by rw[List.length_take,Nat.min_eq_left f],by rw[List.length_take];omega,g,λi r b=>?_⟩
 rw[List.getElem?_take] at b
 split at b
 ·exact j i r b
 ·cases b
theorem sC {L:Nat} {w:World} {a:Option Addr} {N m c:Nat} {xs:List Value} {b:List ai} {d:Int} (o:w.ownsRow L 142 2 (.slice a N c) b.length xs) (p:rH L w xs b) (q:m<=b.length) (s:wf d):aN L w (.agg #[.slice a m c,.int .i64 d]) (b.take m,d):=by
 intro l n E
 have e:l.ownsRow L 142 2 (.slice a N c) b.length xs:=ct o λg f h j=>n g h (lt_of_block j)
 have k:rH L l xs b:=by
  obtain⟨t,u,v⟩:=p
  refine⟨t,u,λi r x=>?_⟩
  obtain⟨y,z,A,B,C,D⟩:=v i r x
  exact⟨y,z,A,B,C,ct D λg f h j=>n g h (lt_of_block j)⟩
 exact⟨_,rfl,s,og (rH.rules e k) m q⟩
theorem iH (L:Nat) (w:World):aN L w (.agg #[.slice none 0 0,.int .i64 0]) ([],0):=λa _ _=>Df _ _
end Go.Proofs.YtnpdhopjpjickaaGreatDoor
end
section
set_option linter.all false
set_option maxRecDepth 100000
namespace Go.Proofs.YtnpdhopjpjickaaGreatDoor
open Go.RowKit Go.Maps
def lp (B L:Nat) (w:World) (v:Value) (p:ap):Prop:=ae p=0/\∃ a,w.ownsRow L 142 2 v (p.1.length+1) a/\jP B w a (p.1++[([],p.2)])
theorem lp.keep {B L a:Nat} {w w':World} {v:Value} {p:ap} (h:lp B L w v p) (b:Below a w w') (c:B<=a) (d:dT 142 w w'):lp B L w' v p:=by
 obtain⟨e,f,g,i⟩:=h
 exact⟨e,f,ex g d,i.later b c⟩
theorem lp.rules {B L:Nat} {w:World} {v:Value} {p:ap} (h:lp B L w v p) (a:B<=w.heap.size):be w.heap.size w v (p.1++[([],p.2)]):=by
 obtain⟨d,e,b,c⟩:=h
 exact oV (by simpa using b) c a
theorem lp.ten {B L:Nat} {w:World} {v:Value} {p:ap} (h:lp B L w v p):p.1.length<=120/\∀ r∈p.1++[(([]:List aB),p.2)],r.1.length<=10:=by
 obtain⟨b,-,c⟩:=cu h.1
 refine⟨b,λr a=>?_⟩
 rcases List.mem_append.1 a with a | a
 ·exact (db (bZ c r a)).1
 ·simp at a
  subst a
  exact Nat.zero_le _
theorem lp.shape {B L:Nat} {w:World} {v:Value} {p:ap} (h:lp B L w v p):∃ a b,v=.slice a (p.1.length+1) b:=by
 obtain⟨d,f,c,g⟩:=h
 obtain⟨a,b,e,_⟩:=ax c
 exact⟨a,b,e⟩
def kL (B L c:Nat) (p q:ap) (k:Nat) (w:World):Prop:=
 ∃ a b,w.heap[c]?=some (.cells #[a,b] 313 (0,0))/\(k=0->a=.slice none 0 0)/\(k<=1->b=.slice none 0 0)/\(1<=k->lp B L w a p)/\(2<=k->lp B L w b q)
theorem kL.later {B L b k:Nat} {p q:ap} {w w':World} (h:kL B L b p q k w) (a:Below w.heap.size w w') (c:B<=w.heap.size):kL B L b p q k w':=by
 obtain⟨e,f,d,g,i,j,l⟩:=h
 exact⟨e,f,(a.block b (lt_of_block d)).trans d,g,i,λh=>(j h).keep a c (dT.of_below a),λh=>(l h).keep a c (dT.of_below a)⟩
theorem kL.first {B L a:Nat} {p q:ap} {w:World} {v:Value} (h:kL B L a p q 0 w) (d:lp B L w v p) (b:B<=a):kL B L a p q 1 (w.setCell ⟨a,0,none⟩ v):=by
 obtain⟨j,e,c,k,f,l,m⟩:=h
 have g:dT 142 w (w.setCell ⟨a,0,none⟩ v):=dT.setOther c (by decide)
 have i:Below B w (w.setCell ⟨a,0,none⟩ v):=(Below.refl _ _).setCell (p:=⟨a,0,none⟩) b _
 exact⟨v,e,by rw[an c];rfl,λh=>by omega,λ_=>f (by omega),λ_=>d.keep i (Nat.le_refl _) g,λh=>by omega⟩
theorem kL.second {B L a:Nat} {p q:ap} {w:World} {v:Value} (h:kL B L a p q 1 w) (f:lp B L w v q) (b:B<=a):kL B L a p q 2 (w.setCell ⟨a,1,none⟩ v):=by
 obtain⟨g,j,c,k,l,i,m⟩:=h
 have d:dT 142 w (w.setCell ⟨a,1,none⟩ v):=dT.setOther c (by decide)
 have e:Below B w (w.setCell ⟨a,1,none⟩ v):=(Below.refl _ _).setCell (p:=⟨a,1,none⟩) b _
 exact⟨g,v,by rw[an c];rfl,λh=>by omega,λh=>by omega,λ_=>(i (by omega)).keep e (Nat.le_refl _) d,λ_=>f.keep e (Nat.le_refl _) d⟩
structure EG (W:World) (fs:Nat->Value->Prop) (w:World):Prop where
 later:Below W.heap.size W w
 box:∀ u,fs 9 u->∃ g,u=.pointer (some ⟨g,0,none⟩)/\W.heap.size<=g/\w.heap[g]?=some (.cells #[.slice none 0 0,.int .i64 0] 30 (0,0))
def EX (k:Nat) (v:Value):Prop:=if k=9 then ∃ g:Nat,v=.pointer (some ⟨g,0,none⟩) else True
theorem Cm (k:Nat):∃ v,EX k v:=by
 unfold EX
 split
 ·exact⟨_,0,rfl⟩
 ·exact⟨undef,trivial⟩
theorem EG.made {W w:World} {b:Nat->Value->Prop} (h:EG W b w):EG W (bW b 9 (.pointer (some ⟨w.heap.size,0,none⟩))) (w.alloc (.cells #[.slice none 0 0,.int .i64 0] 30)):=by
 have c:=(Below.refl w.heap.size w).alloc (Nat.le_refl _) (.cells #[.slice none 0 0,.int .i64 0] 30)
 refine⟨Below.thenOf h.later c h.later.size,λu a=>?_⟩
 rcases a with a | ⟨_,rfl⟩
 ·obtain⟨g,e,f,d⟩:=h.box u a
  exact⟨g,e,f,(c.block g (lt_of_block d)).trans d⟩
 ·exact⟨_,rfl,h.later.size,af _ _⟩
set_option maxHeartbeats 16000000 in
theorem xq (c:Bool) (F:Nat) (hF:∀ a b w,Calls Tryz.prog F #[.agg #[.int .i64 a,.int .i64 b]] w λe i=>e=.returned (.int .i64 (p8 c a b))/\Below w.heap.size w i)
  (hC:∀ bv i,(callFunc F bv).run Tryz.prog i=.ok (.enter F bv) i) (B:Nat) (rv sv:Value) (H ss:List ai) (d f:Int) (w:World) (hr:be B w rv H) (hs:be B w sv ss) (hd:wf d) (hf:wf f) (hB:B<=w.heap.size):
  Calls Tryz.prog 243 #[.agg #[rv,.int .i64 d,sv,.int .i64 f],.func (.func F) #[] #[]] w λe i=>∃ v,e=.returned (.tuple #[v,.int .i64 (eU c (H,d) (ss,f))])/\aN w.heap.size i v (eI c (H,d) (ss,f))/\Below w.heap.size w i:=by
 have d6:Hid (∀ B v0 v1 H ss w,be B w v0 H->be B w v1 ss->B<=w.heap.size->H.length<=121->ss.length<=121->(∀ r∈H,r.1.length<=10)->(∀ r∈ss,r.1.length<=10)->_):=λB v0 v1 H ss w U h2 h3 h4 h5 h6 h7=>xY c F hF hC B v0 v1 H ss w U h2 h3 h4 h5 h6 h7
 clear hF hC
 have bk:Hid (∀ i,Below w.heap.size w i->Calls Tryz.prog 152 #[.agg #[rv,.int .i64 d]] i λe l=>e=.returned (.int .i64 (ae (H,d)))/\Below i.heap.size i l):=λi h=>fm B _ (H,d) i ⟨_,rfl,hd,hr.later h hB⟩ (Nat.le_trans hB h.size)
 have bm:Hid (∀ i,Below w.heap.size w i->Calls Tryz.prog 152 #[.agg #[sv,.int .i64 f]] i λe l=>e=.returned (.int .i64 (ae (ss,f)))/\Below i.heap.size i l):=λi h=>fm B _ (ss,f) i ⟨_,rfl,hf,hs.later h hB⟩ (Nat.le_trans hB h.size)
 have bo:Hid (ae (H,d)=0->∀ i,Below w.heap.size w i->Calls Tryz.prog 263 #[.agg #[rv,.int .i64 d]] i λe l=>∃ v,e=.returned v/\lp B i.heap.size l v (H,d)/\Below i.heap.size i l):=λh0 i h=>(kX B rv H d i (hr.later h hB) hd (Nat.le_trans hB h.size) (cu h0).1).mono λe l ⟨v,e1,xs,e2,e3,e4⟩=>⟨v,e1,⟨h0,xs,by simpa using e2,e3⟩,e4⟩
 have bp:Hid (ae (ss,f)=0->∀ i,Below w.heap.size w i->Calls Tryz.prog 263 #[.agg #[sv,.int .i64 f]] i λe l=>∃ v,e=.returned v/\lp B i.heap.size l v (ss,f)/\Below i.heap.size i l):=λh0 i h=>(kX B sv ss f i (hs.later h hB) hf (Nat.le_trans hB h.size) (cu h0).1).mono λe l ⟨v,e1,xs,e2,e3,e4⟩=>⟨v,e1,⟨h0,xs,by simpa using e2,e3⟩,e4⟩
 have fl:Hid (wf (p8 c d f)):=Ca hd hf
 obtain⟨a0,c0,e0,-,-,-⟩:=hr
 obtain⟨a1,c1,e1,-,-,-⟩:=hs
 subst e0 e1
 clear hd hf
 have fn:=ag
 obtain⟨p,hp⟩:∃ p:ap,p=(H,d):=⟨_,rfl⟩
 obtain⟨q,hq⟩:∃ q:ap,q=(ss,f):=⟨_,rfl⟩
 have fr:Hid (p.1=H/\p.2=d/\q.1=ss/\q.2=f):=by rw[hp,hq];exact⟨rfl,rfl,rfl,rfl⟩
 rw[<-hp] at bk bo |-
 rw[<-hq] at bm bp |-
 clear hp hq
 obtain⟨n0,ca⟩:∃ n,n=H.length:=⟨_,rfl⟩
 obtain⟨n1,cc⟩:∃ n,n=ss.length:=⟨_,rfl⟩
 have hR:=hid ca.symm
 have hS:=hid cc.symm
 rw[<-ca] at bk bo |-
 rw[<-cc] at bm bp |-
 clear ca cc
 obtain⟨I,a9⟩:∃ I,I=((w.alloc (.cells #[.slice a0 n0 c0,.int .i64 d,.slice a1 n1 c1,.int .i64 f] 298)).alloc (.cells #[.slice none 0 0,.int .i64 0] 30)).alloc (.cells #[.slice none 0 0,.slice none 0 0] 313):=⟨_,rfl⟩
 have hT:I.heap.size=w.heap.size+1+1+1:=by rw[a9];simp
 have de:Below w.heap.size w I:=by rw[a9];exact (((Below.refl _ _).alloc (Nat.le_refl _) _).alloc (by simp) _).alloc (by simp;omega) _
 have g1:I.heap[w.heap.size+1]?=some (.cells #[.slice none 0 0,.int .i64 0] 30 (0,0)):=by
  rw[a9]
  exact bM _ (bE _ _ (by simp only[World.size_alloc]))
 have g2:I.heap[w.heap.size+1+1]?=some (.cells #[.slice none 0 0,.slice none 0 0] 313 (0,0)):=by
  rw[a9]
  exact bE _ _ (by simp only[World.size_alloc])
 have di:Hid (kL B (w.heap.size+1+1+1) (w.heap.size+1+1) p q 0 I):=⟨_,_,g2,λ_=>rfl,λ_=>rfl,λh=>by omega,λh=>by omega⟩
 have V:Hid (∀ v,Below (w.heap.size+1+1) I v->v.heap[w.heap.size+1]?=some (.cells #[.slice none 0 0,.int .i64 0] 30 (0,0))/\Below w.heap.size w v):=λv h=>⟨(h.block _ (by omega)).trans g1,de.trans (h.mono (by omega))⟩
 have HW:=hid a9
 clear a9 g1 g2 de
 go_enter Tryz.func243,Tryz.ntmps243
 go_wp2_with fail
 rw[<-HW.out]
 go_loopw [15] (λiv wr=>∃ k:Nat,k<=2/\iv=.int .i64 k/\Hid (kL B (w.heap.size+1+1+1) (w.heap.size+1+1) p q k wr)/\Hid (Below (w.heap.size+1+1) I wr)) (λiv _=>2-(intOf iv).toNat)
 case atStart=>exact⟨0,by omega,rfl,di,Below.refl _ _⟩
 case round=>
  obtain⟨k,hk,rfl,HS,W⟩:=hrel
  obtain⟨j,fx⟩:∃ x,x=wr:=⟨_,rfl⟩
  subst fx
  have hV:w.heap.size+1+1+1<=j.heap.size:=by have:=W.out.size;omega
  have fT:k=0\/k=1\/k=2:=by omega
  rcases fT with rfl | rfl | rfl
  ·obtain⟨J,C⟩:∃ J,J=j.alloc (.cells #[.slice a0 n0 c0,.int .i64 d] 30):=⟨_,rfl⟩
   have X:Below j.heap.size j J:=by rw[C];exact (Below.refl _ _).alloc (Nat.le_refl _) _
   have g0:J.heap.size=j.heap.size+1:=by rw[C];simp
   have gp:J.heap[j.heap.size]?=some (.cells #[.slice a0 n0 c0,.int .i64 d] 30 (0,0)):=by rw[C];exact af _ _
   have b3:Hid (kL B (w.heap.size+1+1+1) (w.heap.size+1+1) p q 0 J):=HS.out.later X (by omega)
   have Y:Hid (Below (w.heap.size+1+1) I J):=Below.thenOf W.out X (by omega)
   have cd:=hid C
   have ce:∀ i,(Instr.index 298 (.agg #[.slice a0 n0 c0,.int .i64 d,.slice a1 n1 c1,.int .i64 f]) (.int .i64 0)).run Tryz.prog i=.ok (.agg #[.slice a0 n0 c0,.int .i64 d]) i:=λi=>by kernel_rfl
   clear C X HS W
   go_wp2_with fail
   rw[<-cd.out]
   clear ce
   go_at_call 152
   refine Calls.mono (bk.out J (V.out _ Y.out).2) ?_
   rintro e w4 ⟨rfl,D⟩
   have g3:=D.size
   have g4:w4.heap[j.heap.size]?=some (.cells #[.slice a0 n0 c0,.int .i64 d] 30 (0,0)):=(D.block _ (by omega)).trans gp
   have K:Hid (kL B (w.heap.size+1+1+1) (w.heap.size+1+1) p q 0 w4):=b3.out.later D (by omega)
   have E:Hid (Below (w.heap.size+1+1) I w4):=Below.thenOf Y.out D (by omega)
   clear gp b3 Y D
   by_cases A:ae p=0
   ·rw[A]
    have S:=hid A
    clear A
    have k0:=ab g4 0 rfl
    have k1:=ab g4 1 rfl
    clear g4
    go_wp2_with fail
    go_at_call 263
    refine Calls.mono (bo.out S.out w4 (V.out _ E.out).2) ?_
    rintro e Z ⟨v,rfl,a2,G⟩
    have g5:=G.size
    obtain⟨va,vc,ev⟩:=a2.shape
    subst ev
    have b4:Hid (kL B (w.heap.size+1+1+1) (w.heap.size+1+1) p q 0 Z):=K.out.later G (by omega)
    have cl:Hid (Below (w.heap.size+1+1) I Z):=Below.thenOf E.out G (by omega)
    have cn:Hid (lp B (w.heap.size+1+1+1) Z (.slice va (p.1.length+1) vc) p):=by
     obtain⟨i0,xs,i1,i2⟩:=a2
     exact⟨i0,xs,cK i1 (by omega),i2⟩
    obtain⟨s0,s1,s,-,-,-,-⟩:=b4.out
    have y0:Z.cell? ⟨w.heap.size+1+1,0,none⟩=some s0:=ab s 0 rfl
    have yf:Z.frozen? ⟨w.heap.size+1+1,0,none⟩=false:=by simp[World.frozen?,s]
    have b5:Hid (kL B (w.heap.size+1+1+1) (w.heap.size+1+1) p q 1 (Z.setCell ⟨w.heap.size+1+1,0,none⟩ (.slice va (p.1.length+1) vc))/\Below (w.heap.size+1+1) I (Z.setCell ⟨w.heap.size+1+1,0,none⟩ (.slice va (p.1.length+1) vc))):=⟨b4.out.first cn.out (by omega),cl.out.setCell (p:=⟨w.heap.size+1+1,0,none⟩) (Nat.le_refl _) _⟩
    clear s a2 G k0 k1 K E
    generalize p.1.length+1=vn at*
    go_wp2_with fail
    exact⟨⟨1,by omega,rfl,b5.out.1,b5.out.2⟩,by simp[intOf]⟩
   ·have S:Hid (eU c p q=ae p/\eI c p q=([],0)):=by
     have h0:bQ [p,q]=ae p:=by unfold bQ;rw[if_neg A]
     have U:eU c p q=ae p:=by unfold eU;rw[if_neg (by rw[h0];exact A),h0]
     exact⟨U,by unfold eI;rw[if_neg (by rw[U];exact A)]⟩
    have b6:(ae p != 0)=true:=by simpa using A
    obtain⟨pe,O⟩:∃ pe,pe=ae p:=⟨_,rfl⟩
    rw[<-O] at b6 S |-
    clear A O
    obtain⟨t,P⟩:=V.out _ E.out
    have r0:=ab t 0 rfl
    have r1:=ab t 1 rfl
    have f0:w4.frozen? ⟨w.heap.size+1,0,none⟩=false:=by simp[World.frozen?,t]
    have f1:w4.frozen? ⟨w.heap.size+1,1,none⟩=false:=by simp[World.frozen?,t]
    have ac:=hid P
    clear t P g4 K E
    go_wp2_with fail
    refine bodyPost_ret (v:=.tuple #[.agg #[.slice none 0 0,.int .i64 0],.int .i64 pe]) ?_ rfl ⟨_,by rw[S.out.1],by rw[S.out.2];exact iH _ _,?_⟩
    ·rw[results_cell_tmp rfl]
     go_simp
    ·repeat (first | exact ac.out | refine Below.setCell ?_ (by simp) _)
  ·obtain⟨J,C⟩:∃ J,J=j.alloc (.cells #[.slice a1 n1 c1,.int .i64 f] 30):=⟨_,rfl⟩
   have X:Below j.heap.size j J:=by rw[C];exact (Below.refl _ _).alloc (Nat.le_refl _) _
   have g0:J.heap.size=j.heap.size+1:=by rw[C];simp
   have gp:J.heap[j.heap.size]?=some (.cells #[.slice a1 n1 c1,.int .i64 f] 30 (0,0)):=by rw[C];exact af _ _
   have b3:Hid (kL B (w.heap.size+1+1+1) (w.heap.size+1+1) p q 1 J):=HS.out.later X (by omega)
   have Y:Hid (Below (w.heap.size+1+1) I J):=Below.thenOf W.out X (by omega)
   have cd:=hid C
   have ce:∀ i,(Instr.index 298 (.agg #[.slice a0 n0 c0,.int .i64 d,.slice a1 n1 c1,.int .i64 f]) (.int .i64 1)).run Tryz.prog i=.ok (.agg #[.slice a1 n1 c1,.int .i64 f]) i:=λi=>by kernel_rfl
   clear C X HS W
   go_wp2_with fail
   rw[<-cd.out]
   clear ce
   go_at_call 152
   refine Calls.mono (bm.out J (V.out _ Y.out).2) ?_
   rintro e w4 ⟨rfl,D⟩
   have g3:=D.size
   have g4:w4.heap[j.heap.size]?=some (.cells #[.slice a1 n1 c1,.int .i64 f] 30 (0,0)):=(D.block _ (by omega)).trans gp
   have K:Hid (kL B (w.heap.size+1+1+1) (w.heap.size+1+1) p q 1 w4):=b3.out.later D (by omega)
   have E:Hid (Below (w.heap.size+1+1) I w4):=Below.thenOf Y.out D (by omega)
   clear gp b3 Y D
   by_cases A:ae q=0
   ·rw[A]
    have S:=hid A
    clear A
    have k0:=ab g4 0 rfl
    have k1:=ab g4 1 rfl
    clear g4
    go_wp2_with fail
    go_at_call 263
    refine Calls.mono (bp.out S.out w4 (V.out _ E.out).2) ?_
    rintro e Z ⟨v,rfl,a2,G⟩
    have g5:=G.size
    obtain⟨va,vc,ev⟩:=a2.shape
    subst ev
    have b4:Hid (kL B (w.heap.size+1+1+1) (w.heap.size+1+1) p q 1 Z):=K.out.later G (by omega)
    have cl:Hid (Below (w.heap.size+1+1) I Z):=Below.thenOf E.out G (by omega)
    have cn:Hid (lp B (w.heap.size+1+1+1) Z (.slice va (q.1.length+1) vc) q):=by
     obtain⟨i0,xs,i1,i2⟩:=a2
     exact⟨i0,xs,cK i1 (by omega),i2⟩
    obtain⟨s0,s1,s,-,-,-,-⟩:=b4.out
    have y0:Z.cell? ⟨w.heap.size+1+1,1,none⟩=some s1:=ab s 1 rfl
    have yf:Z.frozen? ⟨w.heap.size+1+1,1,none⟩=false:=by simp[World.frozen?,s]
    have b5:Hid (kL B (w.heap.size+1+1+1) (w.heap.size+1+1) p q 2 (Z.setCell ⟨w.heap.size+1+1,1,none⟩ (.slice va (q.1.length+1) vc))/\Below (w.heap.size+1+1) I (Z.setCell ⟨w.heap.size+1+1,1,none⟩ (.slice va (q.1.length+1) vc))):=⟨b4.out.second cn.out (by omega),cl.out.setCell (p:=⟨w.heap.size+1+1,1,none⟩) (Nat.le_refl _) _⟩
    clear s a2 G k0 k1 K E
    generalize q.1.length+1=vn at*
    go_wp2_with fail
    exact⟨⟨2,by omega,rfl,b5.out.1,b5.out.2⟩,by simp[intOf]⟩
   ·have S:Hid (eU c p q=ae q/\eI c p q=([],0)):=by
     have h0:bQ [p,q]=ae q:=by unfold bQ;rw[if_pos ((show lp B _ _ _ p from (K.out.choose_spec.choose_spec.2.2.2.1 (by omega))).1)];unfold bQ;rw[if_neg A]
     have U:eU c p q=ae q:=by unfold eU;rw[if_neg (by rw[h0];exact A),h0]
     exact⟨U,by unfold eI;rw[if_neg (by rw[U];exact A)]⟩
    have b6:(ae q != 0)=true:=by simpa using A
    obtain⟨pe,O⟩:∃ pe,pe=ae q:=⟨_,rfl⟩
    rw[<-O] at b6 S |-
    clear A O
    obtain⟨t,P⟩:=V.out _ E.out
    have r0:=ab t 0 rfl
    have r1:=ab t 1 rfl
    have f0:w4.frozen? ⟨w.heap.size+1,0,none⟩=false:=by simp[World.frozen?,t]
    have f1:w4.frozen? ⟨w.heap.size+1,1,none⟩=false:=by simp[World.frozen?,t]
    have ac:=hid P
    clear t P g4 K E
    go_wp2_with fail
    refine bodyPost_ret (v:=.tuple #[.agg #[.slice none 0 0,.int .i64 0],.int .i64 pe]) ?_ rfl ⟨_,by rw[S.out.1],by rw[S.out.2];exact iH _ _,?_⟩
    ·rw[results_cell_tmp rfl]
     go_simp
    ·repeat (first | exact ac.out | refine Below.setCell ?_ (by simp) _)
  ·obtain⟨s0,s1,s,-,-,a3,a4⟩:=HS.out
   have a3:=a3 (by omega)
   have a4:=a4 (by omega)
   obtain⟨gk,dq⟩:=a3.ten
   obtain⟨go,dr⟩:=a4.ten
   have gr:Hid (bQ [p,q]=0):=by unfold Hid bQ;rw[if_pos a3.1];unfold bQ;rw[if_pos a4.1];rfl
   have S:Hid (eU c p q=ae (il c p q)):=by unfold Hid;rw[eU,if_pos gr.out]
   obtain⟨M,hM⟩:∃ M,M=(gO c p q).length+1:=⟨_,rfl⟩
   obtain⟨N0,co⟩:∃ N,N=p.1.length+1:=⟨_,rfl⟩
   obtain⟨N1,cp⟩:∃ N,N=q.1.length+1:=⟨_,rfl⟩
   have cs:M=N0*N1:=by rw[hM,co,cp];exact yr c p q
   have e5:(N0:Int)*(N1:Int)=(M:Int):=by rw[cs];simp
   have e6:M<=14641:=by rw[cs];exact Nat.le_trans (Nat.mul_le_mul (by omega:N0<=121) (by omega:N1<=121)) (by decide)
   have e8:Hid (M<=121->Calls Tryz.prog 264 #[.agg #[s0,s1],.func (.func F) #[] #[]] j λe i=>∃ v,e=.returned v/\∃ xs,i.ownsRow j.heap.size 142 2 v (gO c p q++[([],p8 c p.2 q.2)]).length xs/\rH j.heap.size i xs (gO c p q++[([],p8 c p.2 q.2)])/\Below j.heap.size j i):=λ_=>by
    have h:=d6.out j.heap.size s0 s1 _ _ j (a3.rules (by omega)) (a4.rules (by omega)) (Nat.le_refl _) (by simp;omega) (by simp;omega) dq dr
    rw[rL] at h
    exact h
   obtain⟨hY,hZ,ea⟩:=a3.shape
   obtain⟨i3,i4,eb⟩:=a4.shape
   rw[<-co] at ea
   rw[<-cp] at eb
   subst ea eb
   have y0:=ab s 0 rfl
   have y1:=ab s 1 rfl
   have HM:=hid hM
   have ec:(N0:Int)<=121:=by omega
   have ed:(N1:Int)<=121:=by omega
   obtain⟨t,ee⟩:=V.out _ W.out
   have ac:=hid ee
   have ef:Hid (∀ v,Below j.heap.size j v->v.heap[w.heap.size+1]?=some (.cells #[.slice none 0 0,.int .i64 0] 30 (0,0))):=λv h=>(h.block _ (by omega)).trans t
   have gA:wrap64 ((N0:Int)*(N1:Int))=(M:Int):=by rw[e5];unfold wrap64;omega
   clear hM co cp cs e5 a3 a4 gk go dq dr ee HS W d6 bo bp bk bm di
   by_cases ej:121<M
   ·have b8:(121:Int)<(M:Int):=by omega
    have ek:Hid (eU c p q=2/\eI c p q=([],0)):=by
     have U:eU c p q=2:=by
      rw[S.out]
      unfold ae
      rw[if_pos]
      show 120<(gO c p q).length
      have:=HM.out
      omega
     exact⟨U,by unfold eI;rw[if_neg (by rw[U];decide)]⟩
    have r0:=ab t 0 rfl
    have r1:=ab t 1 rfl
    have f0:j.frozen? ⟨w.heap.size+1,0,none⟩=false:=by simp[World.frozen?,t]
    have f1:j.frozen? ⟨w.heap.size+1,1,none⟩=false:=by simp[World.frozen?,t]
    clear t s
    go_wp2_with fail
    refine bodyPost_ret (v:=.tuple #[.agg #[.slice none 0 0,.int .i64 0],.int .i64 2]) ?_ rfl ⟨_,by rw[ek.out.1],by rw[ek.out.2];exact iH _ _,?_⟩
    ·rw[results_cell_tmp rfl]
     go_simp
    ·repeat (first | exact ac.out | refine Below.setCell ?_ (by simp) _)
   ·have b8:¬((121:Int)<(M:Int)):=by omega
    clear t s
    go_wp2_with fail
    go_at_call 264
    refine Calls.mono (e8.out (by omega)) ?_
    rintro e w7 ⟨v,rfl,xs,ho,hx,ad⟩
    obtain⟨m,hm⟩:∃ m,m=(gO c p q).length:=⟨_,rfl⟩
    have h9:M=m+1:=by rw[HM.out,hm]
    have c2:(gO c p q++[(([]:List aB),p8 c p.2 q.2)]).length=M:=by rw[HM.out];simp
    have cx:w7.ownsRow j.heap.size 142 2 v M xs:=by rw[<-c2];exact ho
    obtain⟨a7,c7,e7,hA,el,em⟩:=ax cx
    subst e7
    obtain⟨g,eg,ha,hb⟩:=em (by omega)
    subst eg
    obtain⟨T,br⟩:∃ T,T=p8 c p.2 q.2:=⟨_,rfl⟩
    have hc:wf T:=by
     have:=fl.out
     obtain⟨-,e2,-,e4⟩:=fr.out
     rw[br,e2,e4]
     exact this
    have z1:w7.cell? ⟨g,m*2+1,none⟩=some (.int .i64 T):=by
     obtain⟨cv,-,k1,-⟩:=hx.2.2 m ([],p8 c p.2 q.2) (by rw[hm];simp)
     rw[br]
     exact aL cx _ _ k1
    have hg:Hid (aN j.heap.size w7 (.agg #[.slice (some ⟨g,0,none⟩) m c7,.int .i64 T]) (il c p q)):=by
     have h:=sC (d:=T) (m:=m) ho hx (by rw[hm];simp) hc
     rw[hm,List.take_left',<-hm] at h
     ·rw[br] at h |-
      exact h
     ·rfl
    have hi:=ad.size
    have en:Hid (∀ v,Below w7.heap.size w7 v->v.heap[w.heap.size+1]?=some (.cells #[.slice none 0 0,.int .i64 0] 30 (0,0))/\Below w.heap.size w v):=λv h=>⟨ef.out v (Below.thenOf ad h ad.size),Below.thenOf ac.out (Below.thenOf ad h ad.size) (by omega)⟩
    have ep:wrap64 ((M:Int)-1)=(m:Int):=by unfold wrap64;omega
    have hj:(M:Int)-1=(m:Int):=by omega
    have ih:(m:Int)<(M:Int):=by omega
    have io:(0:Int)<=(m:Int):=by omega
    have ix:m<M:=by omega
    rw[fn] at el
    have eq:Hid (w.heap.size+1<j.heap.size/\j.heap.size<=w7.heap.size):=⟨by omega,hi⟩
    clear ho hx cx c2 hm h9 br ad e8 y0 y1 HM ef ha gA ec ed e6
    clear em
    go_wp2_with fail
    clear hj ep b8 ej
    have bs:=aw.ne w7
    have q7:∀ y:aw w7,y.1.cell? ⟨g,m*2+1,none⟩=some (.int .i64 T):=λy=>y.cell z1 hb
    have ak:Hid (∀ fs i,EG w7 fs i->∃ z:aw w7,i=z.1):=λfs i h=>⟨⟨i,h.later⟩,rfl⟩
    clear z1
    refine bh [_,_,_,_,_,_,_,_,_,_] _ rfl (λk=>k==9) (EG w7) EX Cm (by kernel_rfl) (by kernel_rfl) ⟨(Below.refl _ _).drew,λ_ h=>h.elim⟩ ?_
    iterate 2 (refine aH ak.out rfl rfl ?_;go_big_quiet_step (fail);refine wpQuiet_nil ?_)
    refine iR (.slice (some ⟨g,0,none⟩) m c7) rfl rfl (λi=>?_) ?_
    ·clear q7 ak bs
     go_simp
     intro hh
     exfalso
     omega
    simp only[Act.put,List.setIfInBounds_toArray,List.set_cons_succ,List.set_cons_zero]
    iterate 5 (refine aH ak.out rfl rfl ?_;go_big_quiet_step (fail);refine wpQuiet_nil ?_)
    refine iR (.agg #[.slice (some ⟨g,0,none⟩) m c7,.int .i64 T]) rfl rfl (λi=>?_) ?_
    ·clear q7 ak bs
     go_simp
    simp only[Act.put,List.setIfInBounds_toArray,List.set_cons_succ,List.set_cons_zero]
    refine bY rfl rfl (λgs i hJ er hl=>⟨.pointer (some ⟨i.heap.size,0,none⟩),i.alloc (.cells #[.slice none 0 0,.int .i64 0] 30),?_,⟨_,rfl⟩,hJ.made⟩) (λv9 hn=>?_)
    ·clear hJ er hl q7 ak bs
     go_simp
    simp only[Act.put,List.setIfInBounds_toArray,List.set_cons_succ,List.set_cons_zero]
    obtain⟨g9,rfl⟩:∃ g:Nat,v9=.pointer (some ⟨g,0,none⟩):=hn
    refine dF ?_
    intro w9 hJ
    obtain⟨j0,e9,es,ao⟩:=hJ.box _ (.inr ⟨rfl,rfl⟩)
    simp at e9
    subst e9
    have et:=hJ.later
    have y0:=ab ao 0 rfl
    have y1:=ab ao 1 rfl
    have f0:w9.frozen? ⟨g9,0,none⟩=false:=by simp[World.frozen?,ao]
    have f1:w9.frozen? ⟨g9,1,none⟩=false:=by simp[World.frozen?,ao]
    obtain⟨Q,a6⟩:∃ Q,Q=(w9.setCell ⟨g9,0,none⟩ (.slice (some ⟨g,0,none⟩) m c7)).setCell ⟨g9,1,none⟩ (.int .i64 T):=⟨_,rfl⟩
    have a8:Below w7.heap.size w7 Q:=by rw[a6];exact (et.setCell (p:=⟨g9,0,none⟩) es _).setCell (p:=⟨g9,1,none⟩) es _
    have ba:Q.heap[g9]?=some (.cells #[.slice (some ⟨g,0,none⟩) m c7,.int .i64 T] 30 (0,0)):=by
     have U:=an (o:=0) (u:=.slice (some ⟨g,0,none⟩) m c7) ao
     have h2:=an (o:=1) (u:=.int .i64 T) U
     rw[a6]
     exact h2
    have eu:=hid a6
    have bb:Hid (aN j.heap.size Q (.agg #[.slice (some ⟨g,0,none⟩) m c7,.int .i64 T]) (il c p q)):=hg.out.later (Nat.le_refl _) a8
    have hu:Hid (Calls Tryz.prog 152 #[.agg #[.slice (some ⟨g,0,none⟩) m c7,.int .i64 T]] Q λe l=>e=.returned (.int .i64 (ae (il c p q)))/\Below Q.heap.size Q l):=fm _ _ _ _ bb.out.at (Nat.le_refl _)
    clear a6 ao hJ et q7 ak bs
    go_wp2_with fail
    rw[<-eu.out]
    go_at_call 152
    refine Calls.mono hu.out ?_
    rintro e av ⟨rfl,R⟩
    have bc:Below w7.heap.size w7 av:=Below.thenOf a8 R a8.size
    obtain⟨t,bd⟩:=en.out av bc
    have bf:=(R.block g9 (lt_of_block ba)).trans ba
    have bg:=hid bd
    have hH:Hid (aN w.heap.size av (.agg #[.slice (some ⟨g,0,none⟩) m c7,.int .i64 T]) (il c p q)):=bb.out.later (by have:=eq.out;omega) R
    have cT:Hid (aN (w.heap.size+1+1) av (.agg #[.slice (some ⟨g,0,none⟩) m c7,.int .i64 T]) (il c p q)):=bb.out.later (by have:=eq.out;omega) R
    have r0:=ab t 0 rfl
    have r1:=ab t 1 rfl
    have t0:av.frozen? ⟨w.heap.size+1,0,none⟩=false:=by simp[World.frozen?,t]
    have t1:av.frozen? ⟨w.heap.size+1,1,none⟩=false:=by simp[World.frozen?,t]
    have k0:=ab bf 0 rfl
    have k1:=ab bf 1 rfl
    clear bc bd R a8 ba bf t y0 y1 f0 f1
    by_cases A:ae (il c p q)=0
    ·have HR:Hid (eU c p q=0/\eI c p q=il c p q):=by
      have U:eU c p q=0:=by rw[S.out,A]
      exact⟨U,by unfold eI;rw[if_pos U]⟩
     rw[A]
     clear A
     go_wp2_with fail
     refine bodyPost_ret (v:=.tuple #[.agg #[.slice (some ⟨g,0,none⟩) m c7,.int .i64 T],.int .i64 0]) ?_ rfl ⟨_,by rw[HR.out.1],?_,?_⟩
     ·rw[results_cell_tmp rfl]
      go_simp
     ·rw[HR.out.2]
      refine aN.keep (L:=w.heap.size+1+1) ?_ (by omega) (λg _ _=>rfl) (Nat.le_refl _)
      repeat (first | exact cT.out | refine aN.put ?_ (.inl (by simp)))
     ·repeat (first | exact bg.out | refine Below.setCell ?_ (by simp) _)
    ·have HR:Hid (eU c p q=ae (il c p q)/\eI c p q=([],0)):=⟨S.out,by unfold eI;rw[if_neg (by rw[S.out];exact A)]⟩
     have b6:(ae (il c p q) != 0)=true:=by simpa using A
     obtain⟨pe,O⟩:∃ pe,pe=ae (il c p q):=⟨_,rfl⟩
     rw[<-O] at b6 HR |-
     clear A O
     go_wp2_with fail
     refine bodyPost_ret (v:=.tuple #[.agg #[.slice none 0 0,.int .i64 0],.int .i64 pe]) ?_ rfl ⟨_,by rw[HR.out.1],by rw[HR.out.2];exact iH _ _,?_⟩
     ·rw[results_cell_tmp rfl]
      go_simp
     ·repeat (first | exact bg.out | refine Below.setCell ?_ (by simp) _)
end Go.Proofs.YtnpdhopjpjickaaGreatDoor
end
section
set_option linter.all false
set_option maxRecDepth 100000
namespace Go.Proofs.YtnpdhopjpjickaaGreatDoor
open Go.RowKit Go.Maps
set_option maxHeartbeats 4000000 in
theorem xU (B:Nat) (O P:Value) (p q:ap) (w:World) (Z:bG B w O p) (hq:bG B w P q) (D:B<=w.heap.size):
  Calls Tryz.prog 232 #[O,P] w λe c=>∃ v,e=.returned (.tuple #[v,.int .i64 (eU true p q)])/\aN w.heap.size c v (eI true p q)/\Below w.heap.size w c:=by
 obtain⟨j,d⟩:=p
 obtain⟨k,f⟩:=q
 obtain⟨Q,R,E,r⟩:=Z
 obtain⟨S,T,F,s⟩:=hq
 have t:Hid (∀ c,Below w.heap.size w c->Calls Tryz.prog 243 #[.agg #[Q,.int .i64 d,S,.int .i64 f],.func (.func 244) #[] #[]] c λe u=>∃ v,e=.returned (.tuple #[v,.int .i64 (eU true (j,d) (k,f))])/\aN c.heap.size u v (eI true (j,d) (k,f))/\Below c.heap.size c u):=λc h=>xq true _ (λa b w=>vM a b w) (λU c=>by kernel_rfl) B Q S j k d f c (r.later h D) (s.later h D) E F (Nat.le_trans D h.size)
 obtain⟨a,G,V,-,-,-⟩:=r
 obtain⟨b,x,W,-,-,-⟩:=s
 simp only at R T V W E F
 subst V W R T
 clear E F
 generalize j.length=n1 at*
 generalize k.length=n2 at*
 obtain⟨o,i⟩:∃ o,o=((w.alloc (.cells #[.slice a n1 G,.int .i64 d] 30)).alloc (.cells #[.slice b n2 x,.int .i64 f] 30)).alloc (.cells #[.slice none 0 0,.int .i64 0] 30):=⟨_,rfl⟩
 have H:o.heap.size=w.heap.size+1+1+1:=by rw[i];simp
 have l:Below w.heap.size w o:=by rw[i];exact (((Below.refl _ _).alloc (Nat.le_refl _) _).alloc (by simp) _).alloc (by simp;omega) _
 have X:o.heap[w.heap.size+1+1]?=some (.cells #[.slice none 0 0,.int .i64 0] 30 (0,0)):=by
  rw[i]
  exact bE _ _ (by simp only[World.size_alloc])
 have HW:=hid i
 clear i
 go_enter Tryz.func232,Tryz.ntmps232
 go_wp2_with fail
 rw[<-HW.out]
 go_at_call 243
 refine Calls.mono (t.out o l) ?_
 rintro e C ⟨v,rfl,I,m⟩
 have Y:Hid (aN (w.heap.size+1+1+1) C v (eI true (j,d) (k,f))):=by rw[<-H];exact I
 obtain⟨vr,ev,J,va,vc,y,-⟩:=I.at
 subst y
 subst ev
 have z:=(m.block _ (by omega)).trans X
 have r0:=ab z 0 rfl
 have r1:=ab z 1 rfl
 have f0:C.frozen? ⟨w.heap.size+1+1,0,none⟩=false:=by simp[World.frozen?,z]
 have f1:C.frozen? ⟨w.heap.size+1+1,1,none⟩=false:=by simp[World.frozen?,z]
 have K:Hid (Below w.heap.size w C):=Below.thenOf l m l.size
 clear I J m z X t
 generalize (eI true (j,d) (k,f)).1.length=vn at*
 obtain⟨M,A⟩:∃ M,M=(eI true (j,d) (k,f)).2:=⟨_,rfl⟩
 rw[<-A] at Y |-
 clear A
 obtain⟨y,n⟩:∃ y,y=eU true (j,d) (k,f):=⟨_,rfl⟩
 have N:=hid n.symm
 rw[<-n]
 clear n
 go_wp2_with fail
 refine bodyPost_ret (v:=.tuple #[.agg #[.slice va vn vc,.int .i64 M],.int .i64 y]) ?_ rfl ⟨_,by rw[N.out],?_,?_⟩
 ·rw[results_cell_tmp rfl]
  go_simp
 ·refine aN.keep (L:=w.heap.size+1+1+1) ?_ (by omega) (λg _ _=>rfl) (Nat.le_refl _)
  repeat (first | exact Y.out | refine aN.put ?_ (.inl (by simp)))
 ·repeat (first | exact K.out | refine Below.setCell ?_ (by simp;omega) _)
end Go.Proofs.YtnpdhopjpjickaaGreatDoor
end
section
set_option linter.all false
set_option maxRecDepth 100000
namespace Go.Proofs.YtnpdhopjpjickaaGreatDoor
open Go.RowKit Go.Maps
theorem lD (d:Int) (r:ai):∀ l:List ai,cA d (l++[r])=if r.2=d then cA d l else l++[r]
 | []=>by
  show (if cA d []=[]/\r.2=d then [] else r :: cA d [])=_
  by_cases h:r.2=d<;>simp[h,cA]
 | s :: l=>by
  have a:=lD d r l
  show (if cA d (l++[r])=[]/\s.2=d then [] else s :: cA d (l++[r]))=_
  rw[a]
  by_cases h:r.2=d
  ·rw[if_pos h,if_pos h]
   rfl
  ·rw[if_neg h,if_neg h,if_neg (by simp)]
   rfl
set_option maxHeartbeats 2000000 in
theorem s7 (B:Nat) (a:Option Addr) (n c:Nat) (f:List ai) (d:Int) (w:World) (h:be B w (.slice a n c) f) (Q:n<=1000):
  Calls Tryz.prog 246 #[.slice a n c,.int .i64 d] w λe F=>e=.returned (.slice a (cA d f).length c)/\F=w:=by
 obtain⟨R,S,C,q,s,l⟩:=h
 simp at C
 obtain⟨rfl,t,rfl⟩:=C
 have u:=hid t.symm
 rw[ag] at s
 rw[<-t] at q
 have v:Hid (∀ k r,f[k]?=some r->∃ b o,a=some ⟨b,o,none⟩/\w.cell? ⟨b,o+k*2+1,none⟩=some (.int .i64 r.2)):=λk r G=>by
  obtain⟨b,o,e,_,T,_,H,_⟩:=l k r G
  exact⟨b,o,e,H⟩
 clear l t
 go_enter Tryz.func246,Tryz.ntmps246
 go_wp2_with fail
 go_loop [5] (λx=>∃ k:Nat,k<=n/\x=.int .i64 k/\Hid (cA d (f.take k)=cA d f)) (λx=>(intOf x).toNat)
 case atStart=>exact⟨n,Nat.le_refl _,rfl,by unfold Hid;rw[<-u.out,List.take_length]⟩
 case round=>
  obtain⟨k,U,rfl,m⟩:=hrel
  have I:(k:Int)<=(c:Int):=by omega
  have V:(0:Int)<=(k:Int):=by omega
  by_cases D:k=0
  ·subst D
   have y:Hid ((cA d f).length=0):=by unfold Hid;rw[<-m.out];rfl
   clear m
   go_wp2_with fail
   go_ret
   exact⟨by rw[y.out];rfl,rfl⟩
  ·obtain⟨j,z⟩:∃ j,k=j+1:=⟨k-1,by omega⟩
   obtain⟨r,g⟩:∃ r,f[j]?=some r:=⟨f[j]'(by rw[u.out];omega),by simp⟩
   have i:Hid (f.take k=f.take j++[r]):=by unfold Hid;rw[z,List.take_succ,g];rfl
   obtain⟨b,o,e,W⟩:=v.out j r g
   subst e
   have E:(0:Int)<(k:Int):=by omega
   have J:(k:Int)-1=(j:Int):=by omega
   have K:(j:Int)<(n:Int):=by omega
   have L:(0:Int)<=(j:Int):=by omega
   have M:j<n:=by omega
   have N:=hid z
   clear g D z
   by_cases p:r.2=d
   ·have A:Hid (cA d (f.take j)=cA d f):=by
     unfold Hid
     rw[<-m.out,i.out,lD,if_pos p]
    have O:(r.2==d)=true:=by simpa using p
    generalize r.2=P at*
    go_wp2_with fail
    exact⟨⟨j,by omega,rfl,A⟩,by have:=N.out;simp[intOf];omega⟩
   ·have y:Hid ((cA d f).length=k):=by
     unfold Hid
     rw[<-m.out,i.out,lD,if_neg p,<-i.out,List.length_take,u.out]
     omega
    have O:(r.2==d)=false:=by simpa using p
    generalize r.2=P at*
    go_wp2_with fail
    go_ret
    exact⟨by rw[y.out];rfl,rfl⟩
end Go.Proofs.YtnpdhopjpjickaaGreatDoor
end
section
set_option linter.all false
set_option maxRecDepth 100000
namespace Go.Proofs.YtnpdhopjpjickaaGreatDoor
open Go.RowKit Go.Maps
def mL (p:ap) (l:List iC) (i:Int):Nat:=(l.filter λx=>kP p (AZ x)==i).length
theorem Ag (p:ap) (l:List iC) (x:iC) (i:Int):mL p (l++[x]) i=mL p l i+if kP p (AZ x)=i then 1 else 0:=by
 unfold mL
 rw[List.filter_append,List.length_append]
 by_cases h:kP p (AZ x)=i<;>simp[h]
theorem Do (p:ap) (l:List iC) (i:Int):mL p l i<=l.length:=List.length_filter_le _ _
theorem BP (p:ap) (l:List iC) (i:Int):0<mL p l i ↔ (l.any λx=>kP p (AZ x)==i)=true:=by
 unfold mL
 rw[List.length_pos_iff_exists_mem]
 simp
set_option maxHeartbeats 4000000 in
theorem tb (B:Nat) (W lv:Value) (p:ap) (cs:List iC) (w:World) (hp:bG B w W p) (hl:fu B w lv cs) (hB:B<=w.heap.size) (hn:cs.length<=1000) (hk:∀ x∈cs,wf (kP p (AZ x))):
  Calls Tryz.prog 245 #[W,lv] w λe f=>∃ b,e=.returned (.map (some b))/\∃ D,f.ownsMap (H:=Unit) Tryz.prog 3 (plainElem Tryz.prog 3) b 1000 D/\(∀ i,wf i->D.atKey (.int .i64 i) (.lit (.int .i64 0))=.lit (.int .i64 (mL p cs i)))/\Below w.heap.size w f:=by
 have HJ:Hid (∀ x f,Below w.heap.size w f->Calls Tryz.prog 262 #[W,fK x] f λe s=>e=.returned (.tuple #[.int .i64 (cm p x).1,.int .i64 (cm p x).2.1,.int .i64 (cm p x).2.2])/\Below f.heap.size f s):=λx f h=>ur B W p x f (hp.later h hB) (Nat.le_trans hB h.size)
 have HL:Hid (∀ f,Below w.heap.size w f->fu B f lv cs):=λf h=>hl.later h hB
 have HK:Hid _:=hk
 obtain⟨I,d⟩:=p
 obtain⟨rv,K,-,a,c,e2,-⟩:=hp
 obtain⟨a1,c1,e3,a5,a6,-⟩:=hl
 simp only at K e2
 subst e2 K e3
 clear hk
 have a7:=ag
 rw[a7] at a6
 obtain⟨N,hN⟩:∃ N,N=cs.length:=⟨_,rfl⟩
 have HN:=hid hN.symm
 rw[<-hN] at hn a5 HL |-
 clear hN
 generalize I.length=Y at*
 have a9:=@run_makeMap Tryz.prog
 obtain⟨g,j⟩:∃ g,g=w.alloc (.cells #[.slice a Y c,.int .i64 d] 30):=⟨_,rfl⟩
 have aa:g.heap.size=w.heap.size+1:=by rw[j];simp
 have ac:Below w.heap.size w g:=by rw[j];exact (Below.refl _ _).alloc (Nat.le_refl _) _
 have g1:g.heap[w.heap.size]?=some (.cells #[.slice a Y c,.int .i64 d] 30 (0,0)):=by rw[j];exact af _ _
 have t:=World.ownsMap_made (H:=Unit) g Tryz.prog 3 (plainElem Tryz.prog 3)
 rw[aa] at t
 obtain⟨W2,u⟩:∃ W2,W2=g.alloc (.map #[] 0):=⟨_,rfl⟩
 rw[<-u] at t
 have L:Below (w.heap.size+1) g W2:=by rw[u];exact (Below.refl _ _).alloc (by omega) _
 have ak:=hid t
 have ao:Hid (∀ v,Below (w.heap.size+1) g v->v.heap[w.heap.size]?=some (.cells #[.slice a Y c,.int .i64 d] 30 (0,0))/\Below w.heap.size w v):=λv h=>⟨(h.block _ (by omega)).trans g1,ac.trans (h.mono (by omega))⟩
 have av:=hid j
 have b0:=hid u
 have b1:=hid L
 clear j u g1 t L
 go_enter Tryz.func245,Tryz.ntmps245
 go_wp2_with fail
 rw[<-av.out]
 rw[<-b0.out]
 clear a9
 go_loopw [14] (λiv wr=>∃ (k:Nat) (D:DataW Unit),k<=N/\iv=.int .i64 k/\Hid (wr.ownsMap (H:=Unit) Tryz.prog 3 (plainElem Tryz.prog 3) (w.heap.size+1) k D)/\Hid (∀ i,wf i->D.atKey (.int .i64 i) (.lit (.int .i64 0))=.lit (.int .i64 (mL (I,d) (cs.take k) i)))/\Hid (Below (w.heap.size+1) g wr)) (λiv _=>N-(intOf iv).toNat)
 case atStart=>exact⟨0,.map [],by omega,rfl,ak,λi _=>rfl,b1⟩
 case round=>
  obtain⟨k,D,hk,rfl,J,Z,y⟩:=hrel
  obtain⟨E,b4⟩:∃ x,x=wr:=⟨_,rfl⟩
  subst b4
  have k0:(0:Int)<=(k:Int):=by omega
  obtain⟨M,l⟩:=ao.out _ y.out
  have c5:=J.out.lt
  by_cases cn:k<N
  ·have k1:(k:Int)<(N:Int):=by omega
   obtain⟨x,z⟩:∃ x,cs[k]?=some x:=⟨cs[k]'(by rw[HN.out];omega),by simp⟩
   have b5:Hid (cs.take (k+1)=cs.take k++[x]):=by unfold Hid;rw[List.take_succ,z];rfl
   have A:=HK.out x (List.mem_of_getElem? z)
   have O:Hid (∀ i,mL (I,d) (cs.take k) i<=k):=λi=>Nat.le_trans (Do _ _ _) (by rw[List.length_take];omega)
   obtain⟨_,_,K,-,-,n⟩:=HL.out _ l
   obtain⟨b3,o3,e,c6,q0,q1,q2,q3,q4⟩:=n k x z
   simp at K
   obtain⟨rfl,-,-⟩:=K
   subst e
   clear n z
   obtain⟨x0,x1,x2,x3,x4⟩:=x
   simp only[] at q0 q1 q2 q3 q4
   obtain⟨r,C⟩:∃ r,r=kP (I,d) (AZ (x0,x1,x2,x3,x4)):=⟨_,rfl⟩
   have bb:=hid C.symm
   have bc:Hid (∀ f,Below w.heap.size w f->Calls Tryz.prog 262 #[.agg #[.slice a Y c,.int .i64 d],.agg #[.int .i64 x0,.int .i64 x1,.int .i64 x2,.int .i64 x3,.int .i64 x4]] f λe s=>∃ v1 v3,e=.returned (.tuple #[.int .i64 v1,.int .i64 r,.int .i64 v3])/\Below f.heap.size f s):=λf h=>by
    refine (HJ.out (vX x0 x1 x2 x3 x4) f h).mono ?_
    rintro e s ⟨rfl,hb⟩
    exact⟨_,_,by rw[C];rfl,hb⟩
   rw[<-C] at A
   clear C
   obtain⟨m,hm⟩:∃ m,m=mL (I,d) (cs.take k) r:=⟨_,rfl⟩
   have bd:Hid (D.atKey (.int .i64 r) (.lit (.int .i64 0))=.lit (.int .i64 (m:Int))):=by unfold Hid;rw[hm];exact Z.out r A
   have cv:m<=1000:=by have:=O.out r;omega
   have bf:(Lit.int .i64 ((m:Int)+1)).wf=true:=WalkArith.wf_i64 (by omega)
   have P:IsMap D:=World.ownsMap.isMap J.out
   have Q:Hid (∀ i,wf i->(D.put (.int .i64 r) (.lit (.int .i64 ((m:Int)+1)))).atKey (.int .i64 i) (.lit (.int .i64 0))=.lit (.int .i64 (mL (I,d) (cs.take (k+1)) i))):=by
    intro i hi
    rw[b5.out,Ag,bb.out]
    by_cases h:r=i
    ·subst h
     rw[Maps.atKey_put_same P (by simp[WideAt.IsKeyLit]),if_pos rfl,<-hm]
     rfl
    ·rw[Maps.atKey_put_other (by simpa using λe:i=r=>h e.symm),if_neg h,Z.out i hi]
     rfl
   have cT:Hid _:=hm
   clear hm P O
   have y0:=ab M 0 rfl
   have y1:=ab M 1 rfl
   have d2:w.heap.size<E.heap.size:=lt_of_block M
   have F:∀ X,Below E.heap.size E (E.alloc X):=λX=>(Below.refl _ _).alloc (Nat.le_refl _) _
   have R:k<maxLen:=by omega
   clear M
   go_wp2_with fail
   go_at_call 262
   refine Calls.mono (bc.out _ (Below.thenOf l (F _) l.size)) ?_
   rintro e w5 ⟨v1,v3,rfl,S⟩
   have o:Below E.heap.size E w5:=Below.thenOf (F _) S (by simp)
   have G:Hid (w5.ownsMap (H:=Unit) Tryz.prog 3 (plainElem Tryz.prog 3) (w.heap.size+1) k D):=J.out.kept (fG o none) (by simp)
   have bg:Hid (Below (w.heap.size+1) g w5):=Below.thenOf y.out o (by omega)
   clear q0 q1 q2 q3 q4 y0 y1 S o F J y
   go_wp2_with (first
    | (at_lookup;go_must (refine wpList_lookup_own_int _ rfl _ _ 120 rfl 3 3 .i64 y9 Tryz.underlying120 Tryz.underlying3 (oq _) (w.heap.size+1) k D rfl G.out _ _ rfl (keyOf_int_mk Tryz.underlying3 A) ?_;intro cc n bk;have T:=n.symm.trans bd.out;simp only[DataW.lit.injEq,Lit.int.injEq,true_and] at T;subst T;clear n bk))
    | (at_mapUpdate;go_must (refine wpList_mapUpdate_own _ rfl _ _ _ 120 rfl 3 3 y9 Tryz.underlying120 (plainElem Tryz.prog 3) (w.heap.size+1) k D rfl G.out R _ _ _ rfl rfl (keyOf_int_mk Tryz.underlying3 A) _ [] (plainElem_int Tryz.underlying3 bf) ?_;intro w7 U V;have bm:Hid _:=U;have bo:Hid _:=V;clear U V)))
   have bp:Below (w.heap.size+1) w5 w7:=(Below.refl _ _).grown bo.out (by have:=G.out.lt;omega) (λq hq=>by cases hq;exact Nat.le_refl _)
   exact⟨⟨k+1,_,by omega,by go_num,bm,Q,bg.out.trans bp⟩,by simp[intOf];omega⟩
  ·have e:k=N:=by omega
   subst e
   have HE:Hid (cs.take k=cs):=by unfold Hid;rw[<-HN.out,List.take_length]
   rw[HE.out] at Z
   have k1:¬((k:Int)<(k:Int)):=by omega
   have bq:=hid l
   have br:Hid (E.ownsMap (H:=Unit) Tryz.prog 3 (plainElem Tryz.prog 3) (w.heap.size+1) 1000 D):=J.out.mono hn
   clear M l y J
   go_wp2_with fail
   go_ret
   exact⟨_,rfl,D,br.out,Z.out,bq.out⟩
end Go.Proofs.YtnpdhopjpjickaaGreatDoor
end
section
set_option linter.all false
set_option maxRecDepth 100000
namespace Go.Proofs.YtnpdhopjpjickaaGreatDoor
open Go.RowKit Go.Maps
set_option maxHeartbeats 8000000 in
theorem vS (B l O F P:Nat) (lv:Value) (ps:List ap) (f:Int) (w:World) (hl:j5 B w lv ps) (U:fw ps) (hB:B<=l) (ao:l<=w.heap.size) (hn:ps.length<=5000000000) (bo:l<=F) (hG:CD l O F P f (fE f []) w):
  Calls Tryz.prog 275 #[lv,.func (.func 276) #[] #[.pointer (some ⟨O,0,none⟩),.pointer (some ⟨F,0,none⟩),.pointer (some ⟨P,0,none⟩)]] w λe s=>e=.returned (.tuple #[])/\CD l O F P f (fE f (bj ps)) s/\Below l w s:=by
 obtain⟨J,hJ⟩:∃ J:List aB->World->Prop,J=λg v=>CD l O F P f (fE f g) v/\Below l w v:=⟨_,rfl⟩
 have V:Hid (∀ g v,J g v->Below l w v):=by rw[hJ];exact λ_ _ h=>h.2
 have bp:Hid (∀ g v,J g v->CD l O F P f (fE f g) v):=by rw[hJ];exact λ_ _ h=>h.1
 have W:Hid (∀ g v A,J g v->Below v.heap.size v A->J g A):=by rw[hJ];exact λ_ v A h hb=>⟨h.1.later hb,Below.thenOf h.2 hb (Nat.le_trans ao h.2.size)⟩
 have bq:Hid (∀ g c v,J g v->aW c=0->g.length<=6000000002500->Calls Tryz.prog 276 #[.agg #[.int .i64 c.1,.int .i64 c.2.1,.int .i64 c.2.2],.pointer (some ⟨O,0,none⟩),.pointer (some ⟨F,0,none⟩),.pointer (some ⟨P,0,none⟩)] v λe A=>e=.returned (.tuple #[])/\J (g++[c]) A/\Below l v A):=by
  rw[hJ]
  intro g c v h hc hd
  have C:=pq f g
  refine (yR l O F P f c (fE f g) v h.1 hc bo (Nat.le_trans ao h.2.size) (by omega)).mono λe A ⟨z,e2,e3⟩=>⟨z,⟨?_,h.2.trans e3⟩,e3⟩
  rw[zg]
  exact e2
 have bs:Hid (J (bj (ps.take 0)) w):=by rw[hJ];exact⟨hG,Below.refl _ _⟩
 clear hJ hG
 have HL:Hid (∀ s,Below l w s->j5 B s lv ps):=λs h=>hl.later h hB
 have bv:=hid U
 have bx:Hid (∀ i,(bj (ps.take i)).length<=ps.length*1200):=λi=>by
  have:=jH (ps.take i) λp hp=>U p (List.mem_of_mem_take hp)
  rw[List.length_take] at this
  have h2:min i ps.length*1200<=ps.length*1200:=Nat.mul_le_mul_right _ (by omega)
  exact Nat.le_trans this h2
 obtain⟨a,dv,rfl,e0,e4,-⟩:=hl
 have e5:=ag
 generalize C:ps.length=q at*
 have D:=hid C
 clear C U
 go_enter Tryz.func275,Tryz.ntmps275
 go_wp2
 go_loopw [12] (λiv wr=>∃ i:Nat,i<=q/\iv=.int .i64 i/\Hid (J (bj (ps.take i)) wr)) (λiv _=>q-(intOf iv).toNat)
 case atStart=>exact⟨0,by omega,rfl,bs⟩
 case round=>
  obtain⟨i,hi,rfl,HS⟩:=hrel
  obtain⟨Y,c1⟩:∃ x,x=wr:=⟨_,rfl⟩
  subst c1
  have i0:(0:Int)<=(i:Int):=by omega
  have Z:=V.out _ _ HS.out
  have e6:=Z.size
  by_cases e7:i<q
  ·have i1:(i:Int)<(q:Int):=by omega
   obtain⟨p,a0⟩:∃ p,ps[i]?=some p:=⟨ps[i]'(by rw[D.out];omega),by simp⟩
   have HP:Hid (bj (ps.take (i+1))=bj (ps.take i)++oz p):=sd ps i p a0
   obtain⟨E,_,av⟩:=cu (bv.out p (List.mem_of_getElem? a0))
   have a1:Hid (∀ r∈p.1,aR r=0):=bZ av
   clear av
   obtain⟨_,_,z,-,-,n⟩:=HL.out _ Z
   obtain⟨b,o,e,e8,c4⟩:=n i p a0
   simp at z
   obtain⟨rfl,-,-⟩:=z
   subst e
   clear n
   obtain⟨t,d⟩:=p
   obtain⟨rv,k0,k1,-,b0⟩:=c4
   have b1:Hid (∀ s,Below l Y s->be B s rv t):=λs h=>b0.later h hB
   obtain⟨a2,c2,c5,Q,da,-⟩:=b0
   subst c5
   simp only[] at E a1 k0 k1 Q
   obtain⟨m,hm⟩:∃ m,m=t.length:=⟨_,rfl⟩
   have a4:=hid hm.symm
   rw[<-hm] at k0 Q E
   simp only[<-hm] at b1
   clear hm
   have c6:=bx.out i
   obtain⟨D0,b2⟩:∃ D0,D0=bj (ps.take i):=⟨_,rfl⟩
   rw[<-b2] at c6 HS HP
   clear b2
   have c7:Hid (∀ X,J (D0++(t.take 0).flatMap (·.1)) (Y.alloc X)):=λX=>by
    have:=W.out _ _ _ HS.out ((Below.refl Y.heap.size _).alloc (Nat.le_refl _) X)
    simpa using this
   have c8:Hid (∀ X,Below l Y (Y.alloc X)):=λX=>(Below.refl _ _).alloc (by omega) _
   have c9:Hid (∀ j,((t.take j).flatMap (·.1)).length<=1200):=λj=>by
    have:=j7 (t.take j) λr hr=>a1.out r (List.mem_of_mem_take hr)
    rw[List.length_take,a4.out] at this
    omega
   go_wp2
   go_loopw [19] (λjv wr=>∃ j:Nat,j<=m/\jv=.int .i64 j/\Hid (J (D0++(t.take j).flatMap (·.1)) wr)/\Below l Y wr) (λjv _=>m-(intOf jv).toNat)
   case atStart=>exact⟨0,by omega,rfl,c7.out _,c8.out _⟩
   case round=>
    obtain⟨j,hj,rfl,G,a6⟩:=hrel
    obtain⟨wj,cb⟩:∃ x,x=wr:=⟨_,rfl⟩
    subst cb
    have j0:(0:Int)<=(j:Int):=by omega
    have ec:=a6.size
    have ed:=(V.out _ _ G.out).size
    by_cases ee:j<m
    ·have j1:(j:Int)<(m:Int):=by omega
     obtain⟨r,a8⟩:∃ r,t[j]?=some r:=⟨t[j]'(by rw[a4.out];omega),by simp⟩
     have a9:Hid ((t.take (j+1)).flatMap (·.1)=(t.take j).flatMap (·.1)++r.1):=qA t j r a8
     obtain⟨R,_,H⟩:=db (a1.out r (List.mem_of_getElem? a8))
     have b5:Hid (∀ c∈r.1,aW c=0):=eM H
     clear H
     obtain⟨_,_,z,-,-,n⟩:=b1.out _ a6
     obtain⟨b3,o3,e,dc,H⟩:=n j r a8
     simp at z
     obtain⟨rfl,-,-⟩:=z
     subst e
     clear n
     obtain⟨u,vd⟩:=r
     obtain⟨cv,q0,q1,-,b6⟩:=H
     have b7:Hid (∀ s,Below l wj s->bB B s cv u):=λs h=>b6.later h hB
     obtain⟨a3,c3,cc,S,de,-⟩:=b6
     subst cc
     simp only[] at R b5 q0 q1 S a9
     obtain⟨n3,I⟩:∃ n3,n3=u.length:=⟨_,rfl⟩
     have T:=hid I.symm
     rw[<-I] at q0 S R
     simp only[<-I] at b7
     clear I
     have cd:=c9.out j
     obtain⟨D1,K⟩:∃ D1,D1=D0++(t.take j).flatMap (·.1):=⟨_,rfl⟩
     have di:D1.length<=q*1200+1200:=by rw[K,List.length_append];omega
     rw[<-K] at G
     have ce:Hid (D0++(t.take (j+1)).flatMap (·.1)=D1++u):=by unfold Hid;rw[a9.out,K,List.append_assoc]
     clear K a9 cd
     have cf:Hid (∀ X,J (D1++u.take 0) (wj.alloc X)):=λX=>by
      have:=W.out _ _ _ G.out ((Below.refl wj.heap.size _).alloc (Nat.le_refl _) X)
      simpa using this
     have ci:Hid (∀ X,Below l wj (wj.alloc X)):=λX=>(Below.refl _ _).alloc (by omega) _
     go_wp2
     go_loopw [26] (λkv wr=>∃ k:Nat,k<=n3/\kv=.int .i64 k/\Hid (J (D1++u.take k) wr)/\Below l wj wr) (λkv _=>n3-(intOf kv).toNat)
     case atStart=>exact⟨0,by omega,rfl,cf.out _,ci.out _⟩
     case round=>
      obtain⟨k,hk,rfl,L,M⟩:=hrel
      obtain⟨wk,cn⟩:∃ x,x=wr:=⟨_,rfl⟩
      subst cn
      have ej:(0:Int)<=(k:Int):=by omega
      have ek:=M.size
      have dk:=(V.out _ _ L.out).size
      by_cases el:k<n3
      ·have em:(k:Int)<(n3:Int):=by omega
       obtain⟨c,ac⟩:∃ c,u[k]?=some c:=⟨u[k]'(by rw[T.out];omega),by simp⟩
       have b8:Hid (u.take (k+1)=u.take k++[c]):=yN u k c ac
       have b9:=b5.out c (List.mem_of_getElem? ac)
       obtain⟨_,_,z,-,-,n⟩:=b7.out _ M
       obtain⟨b4,en,e,dl,z0,z1,z2,-⟩:=n k c ac
       simp at z
       obtain⟨rfl,-,-⟩:=z
       subst e
       clear n
       obtain⟨D2,N⟩:∃ D2,D2=D1++u.take k:=⟨_,rfl⟩
       have dn:D2.length<=q*1200+1300:=by rw[N,List.length_append,List.length_take];omega
       rw[<-N] at L
       have co:Hid (D1++u.take (k+1)=D2++[c]):=by unfold Hid;rw[b8.out,N,List.append_assoc]
       clear N b8
       have ba:Hid (∀ X,Calls Tryz.prog 276 #[.agg #[.int .i64 c.1,.int .i64 c.2.1,.int .i64 c.2.2],.pointer (some ⟨O,0,none⟩),.pointer (some ⟨F,0,none⟩),.pointer (some ⟨P,0,none⟩)] (wk.alloc X) λe A=>e=.returned (.tuple #[])/\J (D2++[c]) A/\Below l wk A):=by
        intro X
        have h1:=W.out _ _ _ L.out ((Below.refl wk.heap.size _).alloc (Nat.le_refl _) X)
        refine (bq.out D2 c _ h1 b9 (by omega)).mono λe A ⟨z,e2,e3⟩=>⟨z,e2,((Below.refl l wk).alloc (by omega) X).trans e3⟩
       clear b9
       obtain⟨fc,op,v⟩:=c
       simp only[] at z0 z1 z2 ba
       go_wp2_with (first | (go_at_call 276;go_must (refine Calls.mono (ba.out _) ?_;rintro e w2 ⟨rfl,cp,cx⟩)))
       have cT:Hid (J (D1++u.take (k+1)) w2):=by rw[co.out];exact cp
       exact⟨⟨k+1,by omega,by go_num,cT,M.trans cx⟩,by simp[intOf];omega⟩
      ·obtain rfl:k=n3:=by omega
       have y:Hid (J (D0++(t.take (j+1)).flatMap (·.1)) wk):=by
        have:=L.out
        rw[List.take_of_length_le (by rw[T.out];omega),<-ce.out] at this
        exact this
       have d0:Below l Y wk:=a6.trans M
       go_wp2
       exact⟨⟨j+1,by omega,by go_num,y,d0⟩,by simp[intOf];omega⟩
    ·obtain rfl:j=m:=by omega
     have y:Hid (J (bj (ps.take (i+1))) wj):=by
      have:=G.out
      rw[List.take_of_length_le (by rw[a4.out];omega)] at this
      rw[HP.out]
      exact this
     go_wp2
     exact⟨⟨i+1,by omega,by go_num,y⟩,by simp[intOf];omega⟩
  ·obtain rfl:i=q:=by omega
   have y:=HS.out
   rw[List.take_of_length_le (by rw[D.out];omega)] at y
   have HE:=bp.out _ _ y
   go_wp2
   go_end0
   exact⟨rfl,HE,Z⟩
end Go.Proofs.YtnpdhopjpjickaaGreatDoor
end
section
set_option linter.all false
set_option maxRecDepth 100000
namespace Go.Proofs.YtnpdhopjpjickaaGreatDoor
open Go.RowKit Go.Maps Go.Shelf Go.Sort
theorem B4 {B:Nat} {w b:World} {g c n nn q:Nat} {os:Array Obj} {ss:List Int} (d:b.ownsRow B 3 1 (.slice (some ⟨g,0,none⟩) n c) n (ss.map (.int .i64))) (e:Below B w b) (o:B<=b.heap.size) (h:B<=g) (f:ss.length=n):
  (putRow (Value.int .i64) (Sort.ahead (grow (putRow (Value.int .i64) (Sort.ahead b nn) g 0 (ss.mergeSort λx y=>decide (x<=y)).toArray) os) q) g 0 (Lib.compact (ss.mergeSort λx y=>decide (x<=y))++List.replicate (n-(Lib.compact (ss.mergeSort λx y=>decide (x<=y))).length) 0).toArray).ownsRow B 3 1 (.slice (some ⟨g,0,none⟩) (Lib.compact (ss.mergeSort λx y=>decide (x<=y))).length c) (Lib.compact (ss.mergeSort λx y=>decide (x<=y))).length ((Lib.compact (ss.mergeSort λx y=>decide (x<=y))).map (.int .i64))/\
  Below B w (putRow (Value.int .i64) (Sort.ahead (grow (putRow (Value.int .i64) (Sort.ahead b nn) g 0 (ss.mergeSort λx y=>decide (x<=y)).toArray) os) q) g 0 (Lib.compact (ss.mergeSort λx y=>decide (x<=y))++List.replicate (n-(Lib.compact (ss.mergeSort λx y=>decide (x<=y))).length) 0).toArray):=by
 have i:(ss.mergeSort λx y=>decide (x<=y)).length=ss.length:=List.length_mergeSort ss
 have p:=Lib.compact_length_le (ss.mergeSort λx y=>decide (x<=y))
 subst f
 rcases d.2 with ⟨r,_⟩ | ⟨E,l,s,t,a,u,v,z,A,F⟩
 ·cases r
 cases t
 have C:=ownsRow_sortedI (n:=nn) (os:=os) (ts:=ss.mergeSort λx y=>decide (x<=y)) i a u v z A
 have m:=Lib.ownsRow_putRow (q:=q) (k:=(Lib.compact (ss.mergeSort λx y=>decide (x<=y))).length) (ys:=Lib.compact (ss.mergeSort λx y=>decide (x<=y))++List.replicate (ss.length-(Lib.compact (ss.mergeSort λx y=>decide (x<=y))).length) 0) C (by simp;omega) (by omega)
 rw[List.take_left] at m
 exact⟨m,Lib.below_putRow (e.grown (grownBy_sortedI _) o (λj D=>by cases D;exact a)) h⟩
theorem iE (w:World) (o:Obj) {n:Nat} (h:n=w.heap.size):(w.alloc o).heap[n]?=some o:=by subst h;exact af _ _
theorem iU {w:World} (o:Obj) {n:Nat} {x:Obj} (h:w.heap[n]?=some x):(w.alloc o).heap[n]?=some x:=(Below.block ((Below.refl w.heap.size w).alloc (Nat.le_refl _) o) n (Array.getElem?_eq_some_iff.1 h).1).trans h
theorem Ax (f:Int) (w:World):Ab w.heap.size w.heap.size (w.heap.size+1+1) (w.heap.size+1+1+1) f (fE f []) (.slice (some ⟨w.heap.size+1,0,none⟩) 1 1)
  ((((w.alloc (.cells #[.int .i64 f] 3)).alloc (.cells #[.int .i64 0] 3)).alloc (.cells #[.slice (some ⟨w.heap.size+1,0,none⟩) 1 1] 189)).alloc (.cells #[.int .i64 (aF f)] 3)):=by
 refine⟨iU _ (iU _ (iU _ (iE _ _ rfl))),iE _ _ (by simp only[World.size_alloc]),iU _ (iE _ _ (by simp only[World.size_alloc])),?_,?_,?_⟩
 ·exact⟨rfl,.inr ⟨w.heap.size+1,1,#[.int .i64 0],rfl,by omega,iU _ (iU _ (iE _ _ (by simp only[World.size_alloc]))),Nat.le_refl _,by rw[ag];omega,rfl,rfl⟩⟩
 ·intro h
  have:w.heap.size+1=w.heap.size:=Option.some.inj h
  omega
 ·intro h
  have:w.heap.size+1=w.heap.size+1+1+1:=Option.some.inj h
  omega
set_option maxHeartbeats 8000000 in
theorem xI (B:Nat) (lv:Value) (ps:List ap) (f:Int) (w:World) (hl:j5 B w lv ps) (m:fw ps) (hB:B<=w.heap.size) (hn:ps.length<=5000000000):
  Calls Tryz.prog 260 #[lv,.int .i64 f] w λe i=>∃ v,e=.returned v/\i.ownsRow w.heap.size 3 1 v (cD ps f).length ((cD ps f).map (.int .i64))/\Below w.heap.size w i:=by
 have S:Hid (∀ i,Below w.heap.size w i->CD w.heap.size w.heap.size (w.heap.size+1+1) (w.heap.size+1+1+1) f (fE f []) i->Calls Tryz.prog 275 #[lv,.func (.func 276) #[] #[.pointer (some ⟨w.heap.size,0,none⟩),.pointer (some ⟨w.heap.size+1+1,0,none⟩),.pointer (some ⟨w.heap.size+1+1+1,0,none⟩)]] i λe G=>e=.returned (.tuple #[])/\CD w.heap.size w.heap.size (w.heap.size+1+1) (w.heap.size+1+1+1) f (fE f (bj ps)) G/\Below w.heap.size i G):=
  λi hb hG=>vS B w.heap.size _ _ _ lv ps f i (hl.later hb hB) m hB hb.size hn (by omega) hG
 have R:Hid (Lib.compact ((fE f (bj ps)).mergeSort λx y=>decide (x<=y))=cD ps f):=tA m f
 have T:(fE f (bj ps)).length<=13000000000000:=by
  have h1:=pq f (bj ps)
  have h2:=jH ps m
  omega
 have V:0<(fE f (bj ps)).length:=by simp[fE]
 obtain⟨b,s⟩:∃ b,b=fE f (bj ps):=⟨_,rfl⟩
 rw[<-s] at R T V
 simp only[<-s] at S
 clear s
 have H:Hid _:=Ax f w
 have t:Hid (∀ X Y Z U,Below w.heap.size w ((((w.alloc X).alloc Y).alloc Z).alloc U)):=λX Y Z U=>((((Below.refl _ _).alloc (Nat.le_refl _) _).alloc (by simp) _).alloc (by simp;omega) _).alloc (by simp;omega) _
 obtain⟨a,av,rfl,b0,b1,-⟩:=hl
 generalize ps.length=b2 at*
 clear m
 go_enter Tryz.func260,Tryz.ntmps260
 go_wp2_with (first
  | (go_at_call 83;go_must (refine Calls.mono (ox f _) ?_;rintro e w1 ⟨rfl,rfl⟩)))
 refine Calls.mono (S.out _ (t.out _ _ _ _) ⟨_,H.out⟩) ?_
 rintro e l ⟨rfl,⟨vs,u⟩,I⟩
 have p:Below w.heap.size w l:=(t.out _ _ _ _).trans I
 clear S H t I
 have k:=u.2.2.2.1
 rcases k.2 with ⟨_,hz⟩ | ⟨g,c,b3,rfl,W,j,a0,a1,J,K⟩
 ·omega
 have hH:=holds_of_blockI (ss:=b) j (by simpa [oh] using K)
 have L:=lt_of_block j
 have a3:=p.size
 have d:=u.2.2.1
 have z0:=ab d 0 rfl
 have a4:=hid k
 have z:(b.mergeSort λx y=>decide (x<=y)).length=b.length:=List.length_mergeSort _
 have r:Hid (Calls Tryz.prog 218 #[.slice (some ⟨g,0,none⟩) b.length c] l λe i=>e=.returned (.tuple #[])/\∃ n h,i=grow (putRow (Value.int .i64) (Sort.ahead l n) g 0 (b.mergeSort λx y=>decide (x<=y)).toArray) h):=Tryz.slices_Sort_int g 0 c b l hH L (by omega)
 have M:Hid (∀ n h,Holds (Value.int .i64) (grow (putRow (Value.int .i64) (Sort.ahead l n) g 0 (b.mergeSort λx y=>decide (x<=y)).toArray) h) g 0 (b.mergeSort λx y=>decide (x<=y)).toArray/\(grow (putRow (Value.int .i64) (Sort.ahead l n) g 0 (b.mergeSort λx y=>decide (x<=y)).toArray) h).cell? ⟨w.heap.size+1+1,0,none⟩=some (.slice (some ⟨g,0,none⟩) b.length c)):=by
  intro n h
  refine⟨holds_grow (Value.int .i64) _ h g 0 _ (by simpa [putRow,mapBlock,Sort.ahead] using L) (holds_putRow (Value.int .i64) _ g 0 _ _ (holds_ahead (Value.int .i64) l n g 0 _ hH) (by simp[z])),?_⟩
  have a5:=grownBy_sortedI (w:=l) (g:=g) (n:=n) (os:=h) (b.mergeSort λx y=>decide (x<=y)).toArray
  refine ab ((a5.block (w.heap.size+1+1) (lt_of_block d) λe=>?_).trans d) 0 rfl
  have e':=Option.some.inj e
  rw[<-e'] at j
  rw[d] at j
  cases j
 have A:Hid (∀ C,Holds (Value.int .i64) C g 0 (b.mergeSort λx y=>decide (x<=y)).toArray->Calls Tryz.prog 277 #[.slice (some ⟨g,0,none⟩) b.length c] C λe i=>e=.returned (.slice (some ⟨g,0,none⟩) (Lib.compact (b.mergeSort λx y=>decide (x<=y))).length c)/\∃ q,i=putRow (Value.int .i64) (Sort.ahead C q) g 0 (Lib.compact (b.mergeSort λx y=>decide (x<=y))++List.replicate (b.length-(Lib.compact (b.mergeSort λx y=>decide (x<=y))).length) 0).toArray):=by
  intro C h6
  have:=Tryz.slices_Compact_int g 0 c (b.mergeSort λx y=>decide (x<=y)) C h6 (by omega) (by omega)
  rw[z] at this
  exact this
 have HL:Hid (∀ n h q,(putRow (Value.int .i64) (Sort.ahead (grow (putRow (Value.int .i64) (Sort.ahead l n) g 0 (b.mergeSort λx y=>decide (x<=y)).toArray) h) q) g 0 (Lib.compact (b.mergeSort λx y=>decide (x<=y))++List.replicate (b.length-(Lib.compact (b.mergeSort λx y=>decide (x<=y))).length) 0).toArray).ownsRow w.heap.size 3 1 (.slice (some ⟨g,0,none⟩) (cD ps f).length c) (cD ps f).length ((cD ps f).map (.int .i64))/\
  Below w.heap.size w (putRow (Value.int .i64) (Sort.ahead (grow (putRow (Value.int .i64) (Sort.ahead l n) g 0 (b.mergeSort λx y=>decide (x<=y)).toArray) h) q) g 0 (Lib.compact (b.mergeSort λx y=>decide (x<=y))++List.replicate (b.length-(Lib.compact (b.mergeSort λx y=>decide (x<=y))).length) 0).toArray)):=by
  intro n h q
  have:=B4 (nn:=n) (q:=q) (os:=h) a4.out p a3 W rfl
  rw[<-R.out]
  exact this
 have N:Hid ((Lib.compact (b.mergeSort λx y=>decide (x<=y))).length=(cD ps f).length):=by unfold Hid;rw[R.out]
 rw[N.out] at A
 clear k j J K hH u d z R
 go_wp2_with fail
 go_at_call 218
 refine Calls.mono r.out ?_
 rintro e C ⟨rfl,n6,O,D⟩
 obtain⟨E,z6⟩:=M.out n6 O
 have F:Hid _:=HL.out n6 O
 rw[<-D] at E z6
 simp only[<-D] at F
 have a6:Hid _:=E
 clear D HL M r z0 E
 go_wp2_with fail
 go_at_call 277
 refine Calls.mono (A.out C a6.out) ?_
 rintro e w7 ⟨rfl,q7,P⟩
 have o:=F.out q7
 rw[N.out] at o
 rw[<-P] at o
 have Q:Hid _:=o
 clear P F o A z6
 go_wp2_with fail
 go_ret
 exact⟨_,rfl,Q.out.1,Q.out.2⟩
end Go.Proofs.YtnpdhopjpjickaaGreatDoor
end
section
set_option linter.all false
set_option maxRecDepth 100000
namespace Go.Proofs.YtnpdhopjpjickaaGreatDoor
open Go.RowKit Go.Maps
def kC:Array Value:=#[.string ⟨#[111,112,101,110]⟩,.string ⟨#[116,105,103,104,116]⟩,.string ⟨#[102,111,114,107]⟩,.string ⟨#[115,104,117,116]⟩]
theorem mO (w:World):Calls Tryz.prog 163 #[] w λe a=>e=.returned (.slice (some ⟨w.heap.size,0,none⟩) 4 4)/\a=w.alloc (.cells kC 9):=by
 go_enter Tryz.func163,Tryz.ntmps163
 go_wp2
 go_ret
 exact⟨rfl,rfl⟩
theorem DK {i:Nat} (h:i<4):kC[i]?=some (.string (eP (kN.getD i []))):=by
 have:i=0\/i=1\/i=2\/i=3:=by omega
 rcases this with rfl | rfl | rfl | rfl<;>rfl
theorem Dr (i:Nat):(kN.getD i []).length<=5:=by
 match i with
 | 0=>decide
 | 1=>decide
 | 2=>decide
 | 3=>decide
 | i+4=>simp[kN]
theorem Dn {i:Nat} (h:i<4):kN.getD i []≠[]:=by
 have:i=0\/i=1\/i=2\/i=3:=by omega
 rcases this with rfl | rfl | rfl | rfl<;>decide
theorem yY (x:Bs):bI kN x<4:=by
 have:∀ (l:List Bs) (x:Bs),bI l x<l.length:=by
  intro l x
  induction l with
  | nil=>simp[bI]
  | cons n r a=>
   unfold bI
   simp only[List.length_cons]
   split
   ·omega
   ·split<;>omega
 exact this kN x
theorem wI (b:Nat) (x:ByteArray) (w:World) (h:ew b kC w):
  Calls Tryz.prog 211 #[.slice (some ⟨b,0,none⟩) 4 4,.string x] w λe c=>e=.returned (.int .i64 (bI kN x.data.toList))/\c=w:=by
 have:=Tryz.slices_Index_string b 0 4 4 (kN.map eP) x w (by simp[kN]) (by decide) (λj d=>by
  rw[Nat.zero_add]
  refine h j _ ?_
  have a:j<4:=by
   have:j<kN.length:=by simpa using d
   exact this
  rw[DK a]
  have e:kN[j]?=some (kN[j]'a):=List.getElem?_eq_getElem a
  simp[List.getD,e])
 rw[List.take_of_length_le (by simp[kN]),pP] at this
 exact this
set_option maxHeartbeats 1000000 in
theorem gM (x:ByteArray) (w:World):
  Calls Tryz.prog 182 #[.string x] w λe c=>e=.returned (.tuple #[.int .i64 (1+bI kN x.data.toList),.bool (decide (0<=bI kN x.data.toList))])/\Below w.heap.size w c:=by
 have d:Hid (Calls Tryz.prog 211 #[.slice (some ⟨w.heap.size,0,none⟩) 4 4,.string x] (w.alloc (.cells kC 9)) λe a=>e=.returned (.int .i64 (bI kN x.data.toList))/\a=w.alloc (.cells kC 9)):=wI w.heap.size x _ (ew.made w kC 9)
 have f:Hid (Below w.heap.size w (w.alloc (.cells kC 9))):=(Below.refl _ _).alloc (Nat.le_refl _) _
 have g:=kU kN x.data.toList
 have h:=yY x.data.toList
 generalize bI kN x.data.toList=b at*
 have i:IntKind.i64.wrap (1+b)=1+b:=IntWalk.i64_in _ (by omega)
 clear g h
 go_enter Tryz.func182,Tryz.ntmps182
 go_wp2_with fail
 go_at_call 163
 refine Calls.mono (mO _) ?_
 rintro e j ⟨rfl,rfl⟩
 generalize k:w.alloc (.cells kC 9)=W at*
 go_wp2_with fail
 go_at_call 211
 refine Calls.mono d.out ?_
 rintro e l ⟨rfl,rfl⟩
 go_wp2_with fail
 go_ret2
 exact⟨rfl,f.out⟩
theorem oG (w:World):Calls Tryz.prog 183 #[.int .i64 4] w λe a=>e=.returned (.int .i64 2)/\a=w:=by
 go_enter Tryz.func183,Tryz.ntmps183
 go_wp2
 go_ret
 exact⟨rfl,rfl⟩
theorem iP {k:Int} (h:k<4) (w:World):Calls Tryz.prog 183 #[.int .i64 k] w λe a=>e=.returned (.int .i64 3)/\a=w:=by
 have b:(k==4)=false:=by simp;omega
 clear h
 go_enter Tryz.func183,Tryz.ntmps183
 go_wp2
 go_ret
 exact⟨rfl,rfl⟩
end Go.Proofs.YtnpdhopjpjickaaGreatDoor
end
