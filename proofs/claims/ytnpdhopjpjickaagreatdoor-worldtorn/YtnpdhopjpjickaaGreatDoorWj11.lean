/- Joined: Nte0 Nte1 Bth1 Bth2. -/
import Derived.Test.YtnpdhopjpjickaaGreatDoorWj03
import Derived.Test.YtnpdhopjpjickaaGreatDoorWj10
import Derived.Test.YtnpdhopjpjickaaGreatDoorWj07
import Derived.Test.YtnpdhopjpjickaaGreatDoorWj08
import Derived.Test.YtnpdhopjpjickaaGreatDoorWj01
import Derived.Maps.AppendAt
section
set_option linter.all false
namespace Go.Proofs.YtnpdhopjpjickaaGreatDoor
def kN:List Bs:=[[111,112,101,110],[116,105,103,104,116],[102,111,114,107],[115,104,117,116]]
def aG (r:al):Bs:=kN.getD (r.1-1).toNat []++32 :: (Lib.itoa r.2.1++(if r.1=3 then 32 :: Lib.itoa r.2.2.1 else if r.1=4 then [] else 32 :: cM r.2.2.2))
def gL (r:al):Bs:=if bF r=0 then aG r else []
def gQ:Bs->Option (Bs × Bs)
 | []=>none
 | b :: l=>if b=32 then some ([],l) else match gQ l with
  | none=>none
  | some (a,t)=>some (b :: a,t)
def ar (s:Bs):List Bs:=match gQ s with
 | none=>[s]
 | some (a,t)=>match gQ t with
  | none=>[a,t]
  | some (b,u)=>[a,b,u]
def jG (r:al):al × Int:=if bF r=0 then (r,0) else (cr,bF r)
def dS (s:Bs):al × Int:=
 if bI kN ((ar s).getD 0 [])<0\/(bI kN ((ar s).getD 0 [])=3/\(ar s).length≠2)\/(bI kN ((ar s).getD 0 [])<3/\(ar s).length≠3) then (cr,1)
 else match cS ((ar s).getD 1 []) with
  | none=>(cr,1)
  | some c=>if bI kN ((ar s).getD 0 [])=2 then (match cS ((ar s).getD 2 []) with
    | none=>(cr,1)
    | some f=>jG (3,c,f,[],0))
   else if bI kN ((ar s).getD 0 [])=3 then jG (4,c,0,[],0)
   else if (cy ((ar s).getD 2 [])).2=0 then jG (bI kN ((ar s).getD 0 [])+1,c,0,(cy ((ar s).getD 2 [])).1)
   else (cr,(cy ((ar s).getD 2 [])).2)
theorem ke:∀ (a t:Bs),(32:UInt8) ∉ a->gQ (a++32 :: t)=some (a,t)
 | [],t,_=>rfl
 | b :: a,t,h=>by
  have c:b≠32:=λe=>h (by simp[e])
  show (if b=32 then some ([],a++32 :: t) else match gQ (a++32 :: t) with | none=>none | some (a,t)=>some (b :: a,t))=_
  rw[if_neg c,ke a t λe=>h (by simp[e])]
theorem o9:∀ (a:Bs),(32:UInt8) ∉ a->gQ a=none
 | [],_=>rfl
 | b :: a,h=>by
  have c:b≠32:=λe=>h (by simp[e])
  show (if b=32 then some ([],a) else match gQ a with | none=>none | some (a,t)=>some (b :: a,t))=_
  rw[if_neg c,o9 a λe=>h (by simp[e])]
theorem kB:∀ {s a t:Bs},gQ s=some (a,t)->s=a++32 :: t/\(32:UInt8) ∉ a
 | [],a,t,h=>by cases h
 | b :: s,a,t,h=>by
  have c:(if b=32 then some ([],s) else match gQ s with | none=>none | some (a,t)=>some (b :: a,t))=some (a,t):=h
  by_cases d:b=32
  ·rw[if_pos d] at c
   cases c
   exact⟨by rw[d];rfl,by simp⟩
  ·rw[if_neg d] at c
   cases hc:gQ s with
   | none=>rw[hc] at c;cases c
   | some x=>
    obtain⟨g,i⟩:=x
    rw[hc] at c
    cases c
    obtain⟨e,f⟩:=kB hc
    exact⟨by rw[e];rfl,by simp;exact⟨λe=>d e.symm,f⟩⟩
theorem zH {s:Bs} (h:gQ s=none):(32:UInt8) ∉ s:=by
 intro c
 obtain⟨a,t,e,d⟩:∃ a t,s=a++32 :: t/\(32:UInt8) ∉ a:=by
  clear h
  induction s with
  | nil=>cases c
  | cons b s g=>
   by_cases f:b=32
   ·exact⟨[],s,by rw[f];rfl,by simp⟩
   ·rcases List.mem_cons.1 c with e | c
    ·exact absurd e.symm f
    ·obtain⟨a,t,e,d⟩:=g c
     exact⟨b :: a,t,by rw[e];rfl,by simp;exact⟨λe=>f e.symm,d⟩⟩
 rw[e,ke a t d] at h
 cases h
theorem zk {n:Int} (h:0<=n):(32:UInt8) ∉ Lib.itoa n:=by
 have e:Lib.itoa n=Lib.decDigits n.toNat:=by unfold Lib.itoa;rw[if_neg (by omega)]
 rw[e]
 intro a
 have:=gh _ _ a
 have b:(32:UInt8).toNat=32:=rfl
 omega
theorem Cr:∀ k,k<4->(32:UInt8) ∉ kN.getD k []:=by decide
theorem Ec:∀ k,k<4->bI kN (kN.getD k [])=(k:Int):=by decide
end Go.Proofs.YtnpdhopjpjickaaGreatDoor
end
section
set_option linter.all false
namespace Go.Proofs.YtnpdhopjpjickaaGreatDoor
theorem yn {a b:Bs} (c:(32:UInt8) ∉ a) (d:(32:UInt8) ∉ b):ar (a++32 :: b)=[a,b]:=by
 unfold ar
 rw[ke a b c]
 simp only[o9 b d]
theorem oW {a b c:Bs} (d:(32:UInt8) ∉ a) (e:(32:UInt8) ∉ b):ar (a++32 :: (b++32 :: c))=[a,b,c]:=by
 unfold ar
 rw[ke a _ d]
 simp only[ke b c e]
theorem jr {s:Bs}:(∃ a,ar s=[a]/\s=a)\/(∃ a b,ar s=[a,b]/\s=a++32 :: b)\/∃ a b c,ar s=[a,b,c]/\s=a++32 :: (b++32 :: c):=by
 unfold ar
 cases h:gQ s with
 | none=>exact .inl ⟨s,rfl,rfl⟩
 | some x=>
  obtain⟨a,t⟩:=x
  obtain⟨e,-⟩:=kB h
  cases h2:gQ t with
  | none=>exact .inr (.inl ⟨a,t,by simp only[h2],e⟩)
  | some x=>
   obtain⟨b,u⟩:=x
   obtain⟨d,-⟩:=kB h2
   exact .inr (.inr ⟨a,b,u,by simp only[h2],by rw[e,d]⟩)
theorem xa {w:Bs} {n:Int} (h:cS w=some n):Lib.itoa n=w:=by
 unfold cS at h
 split at h
 ·split at h
  ·rename_i e
   cases h
   exact e
  ·cases h
 ·cases h
theorem pj {r x:al} (h:jG r=(x,0)):x=r/\bF r=0:=by
 unfold jG at h
 split at h
 ·rename_i a
  cases h
  exact⟨rfl,a⟩
 ·rename_i a
  simp at h
  exact absurd h.2 a
theorem kG {r:al} (h:bF r=0):jG r=(r,0):=by unfold jG;rw[if_pos h]
theorem th {p:ap} (h:ae p=0) (a:(cM p).length<=60000):cy (cM p)=(p,0):=by
 rw[s8 a (CB h),if_pos h]
theorem tj {r:al} (h:bF r=0):∃ k:Nat,k<4/\r.1=(k:Int)+1/\(ar (aG r)).getD 0 []=kN.getD k []/\(ar (aG r)).getD 1 []=Lib.itoa r.2.1/\
  (k=3->(ar (aG r)).length=2)/\(k<3->(ar (aG r)).length=3/\(ar (aG r)).getD 2 []=if k=2 then Lib.itoa r.2.2.1 else cM r.2.2.2):=by
 obtain⟨m,i,n,-,-⟩:=gY h
 obtain⟨k,c,j⟩:∃ k:Nat,k<4/\r.1=(k:Int)+1:=⟨(r.1-1).toNat,by omega,by omega⟩
 refine⟨k,c,j,?_⟩
 have e:=Cr k c
 have f:=zk i.1
 have l:(r.1-1).toNat=k:=by omega
 unfold aG
 rw[l]
 by_cases g:k=3
 ·have d:¬r.1=3:=by omega
  have a:r.1=4:=by omega
  rw[if_neg d,if_pos a,List.append_nil,yn e f]
  exact⟨rfl,rfl,λ_=>rfl,λh=>by omega⟩
 ·by_cases d:k=2
  ·have b:r.1=3:=by omega
   rw[if_pos b,oW e f]
   exact⟨rfl,rfl,λh=>absurd h g,λ_=>⟨rfl,by rw[if_pos d];rfl⟩⟩
  ·have b:¬r.1=3:=by omega
   have a:¬r.1=4:=by omega
   rw[if_neg b,if_neg a,oW e f]
   exact⟨rfl,rfl,λh=>absurd h g,λ_=>⟨rfl,by rw[if_neg d];rfl⟩⟩
theorem rq {r:al} (h:bF r=0) (J:(aG r).length<=60000):dS (aG r)=(r,0):=by
 obtain⟨k,o,u,w,x,y,a⟩:=tj h
 obtain⟨z,A,B,p,n⟩:=gY h
 have i:=Ec k o
 have j:cS (Lib.itoa r.2.1)=some r.2.1:=ny _ (by omega)
 unfold dS
 rw[w,i,x,j]
 have b:¬((k:Int)<0\/((k:Int)=3/\(ar (aG r)).length≠2)\/((k:Int)<3/\(ar (aG r)).length≠3)):=by
  rintro (h | ⟨h,q⟩ | ⟨h,q⟩)
  ·omega
  ·exact q (y (by omega))
  ·exact q (a (by omega)).1
 rw[if_neg b]
 obtain⟨l,C,v,g⟩:=r
 simp only at u z A B p n a |-
 by_cases s:k=2
 ·have c:(k:Int)=2:=by omega
  rw[if_pos c,(a (by omega)).2,if_pos s,ny _ (by omega)]
  have d:g=([],0):=by
   rcases n with ⟨h,-⟩ | ⟨-,h⟩
   ·omega
   ·exact h
  have D:l=3:=by omega
  subst D d
  exact kG h
 ·have c:¬(k:Int)=2:=by omega
  rw[if_neg c]
  have m:v=0:=by omega
  by_cases K:k=3
  ·have f:(k:Int)=3:=by omega
   rw[if_pos f]
   have d:g=([],0):=by
    rcases n with ⟨h,-⟩ | ⟨-,h⟩
    ·omega
    ·exact h
   have E:l=4:=by omega
   subst E d m
   exact kG h
  ·have f:¬(k:Int)=3:=by omega
   have F:ae g=0:=by
    rcases n with ⟨-,h⟩ | ⟨h,-⟩
    ·exact h
    ·omega
   have t:(cM g).length<=60000:=by
    have e:=(a (by omega)).2
    rw[if_neg s] at e
    have G:(cM g).length<=(aG (l,C,v,g)).length:=by
     unfold aG
     have H:¬l=3:=by omega
     have I:¬l=4:=by omega
     simp only[if_neg H,if_neg I]
     simp
     omega
    omega
   rw[if_neg f,(a (by omega)).2,if_neg s,th F t]
   simp only[if_true]
   subst m
   rw[<-u]
   exact kG h
theorem Cp {s:Bs} {r:al} (h:dS s=(r,0)) (B:s.length<=60000):bF r=0/\aG r=s:=by
 unfold dS at h
 split at h
 ·cases h
 ·rename_i v
  have n:0<=bI kN ((ar s).getD 0 []):=by
   apply Classical.byContradiction
   intro e
   exact v (.inl (by omega))
  have w:=mJ kN ((ar s).getD 0 [])
  have d:=mg kN ((ar s).getD 0 []) n
  have D:kN.length=4:=rfl
  rw[D] at w
  generalize E:bI kN ((ar s).getD 0 [])=k at*
  have o:k=3->(ar s).length=2:=λe=>by
   apply Classical.byContradiction
   intro x
   exact v (.inr (.inl ⟨e,x⟩))
  have i:k<3->(ar s).length=3:=λe=>by
   apply Classical.byContradiction
   intro x
   exact v (.inr (.inr ⟨e,x⟩))
  cases hn:cS ((ar s).getD 1 []) with
  | none=>rw[hn] at h;cases h
  | some c=>
   rw[hn] at h
   have j:=xa hn
   simp only at h
   split at h
   ·rename_i C
    cases hn2:cS ((ar s).getD 2 []) with
    | none=>rw[hn2] at h;cases h
    | some f=>
     rw[hn2] at h
     obtain⟨rfl,q⟩:=pj h
     refine⟨q,?_⟩
     have y:=xa hn2
     rcases jr (s:=s) with ⟨a,e,g⟩ | ⟨a,b,e,g⟩ | ⟨a,b,m,e,g⟩
     ·have:=i (by omega);rw[e] at this;simp at this
     ·have:=i (by omega);rw[e] at this;simp at this
     ·rw[e] at d j y
      simp at d j y
      rw[g,<-d,<-j,<-y,C]
      rfl
   ·rename_i C
    split at h
    ·rename_i u
     obtain⟨rfl,q⟩:=pj h
     refine⟨q,?_⟩
     rcases jr (s:=s) with ⟨a,e,g⟩ | ⟨a,b,e,g⟩ | ⟨a,b,m,e,g⟩
     ·have:=o u;rw[e] at this;simp at this
     ·rw[e] at d j
      simp at d j
      rw[g,<-d,<-j,u]
      show _++32 :: (Lib.itoa c++[])=_
      rw[List.append_nil]
      rfl
     ·have:=o u;rw[e] at this;simp at this
    ·rename_i u
     split at h
     ·rename_i l
      obtain⟨rfl,q⟩:=pj h
      refine⟨q,?_⟩
      rcases jr (s:=s) with ⟨a,e,g⟩ | ⟨a,b,e,g⟩ | ⟨a,b,m,e,g⟩
      ·have:=i (by omega);rw[e] at this;simp at this
      ·have:=i (by omega);rw[e] at this;simp at this
      ·rw[e] at d j l |-
       simp at d j l |-
       have t:m.length<=60000:=by rw[g] at B;simp at B;omega
       have z:cM (cy m).1=m:=by
        cases hpo:zQ1 m with
        | none=>rw[zj t hpo] at l;cases l
        | some p=>
         rw[s8 t hpo] at l |-
         split at l
         ·rename_i A
          rw[if_pos A]
          exact Cb hpo
         ·rename_i A
          exact absurd l A
       unfold aG
       have F:¬k+1=3:=by omega
       have G:¬k+1=4:=by omega
       simp only[if_neg F,if_neg G,z]
       rw[g,<-d,<-j,show (k+1-1).toNat=k.toNat by omega]
       simp
     ·rename_i l
      exact absurd (Prod.mk.inj h).2 l
end Go.Proofs.YtnpdhopjpjickaaGreatDoor
end
section
set_option linter.all false
set_option maxRecDepth 100000
namespace Go.Proofs.YtnpdhopjpjickaaGreatDoor
open Go.RowKit Go.Maps
theorem qf {w w':World} (a:Below w.heap.size w w') (row:Option Nat):w.grownBy w' row:=⟨a.os,a.tape,a.output,a.size,λk b _=>a.block k b⟩
theorem bE (w:World) (o:Obj) {n:Nat} (h:n=w.heap.size):(w.alloc o).heap[n]?=some o:=by subst h;exact af _ _
theorem bM {w:World} (o:Obj) {n:Nat} {x:Obj} (h:w.heap[n]?=some x):(w.alloc o).heap[n]?=some x:=(Below.block ((Below.refl w.heap.size w).alloc (Nat.le_refl _) o) n (Array.getElem?_eq_some_iff.1 h).1).trans h
def dT (T:TypeId) (w w':World):Prop:=∀ (k:Nat) (a:Array Value) (b:Nat × Nat),w.heap[k]?=some (.cells a T b)->w'.heap[k]?=some (.cells a T b)
theorem dT.of_below {T:TypeId} {w w':World} (h:Below w.heap.size w w'):dT T w w':=λk b c a=>(h.block k (lt_of_block a)).trans a
theorem dT.trans {T:TypeId} {a b c:World} (h:dT T a b) (f:dT T b c):dT T a c:=λk d e g=>f k d e (h k d e g)
theorem ex {w w':World} {a b n:Nat} {e:TypeId} {v:Value} {xs:List Value} (h:w.ownsRow a e b v n xs) (f:dT e w w'):w'.ownsRow a e b v n xs:=ct h λg c _ d=>(f g c _ d).trans d.symm
def rH (L:Nat) (w:World) (xs:List Value) (a:List ai):Prop:=
 xs.length=a.length*2/\(∀ u∈xs,u.oneCell'=true)/\∀ i r,a[i]?=some r->∃ b,xs[i*2]?=some b/\xs[i*2+1]?=some (.int .i64 r.2)/\wf r.2/\(∀ c∈r.1,wf c.1/\wf c.2.1/\wf c.2.2)/\w.ownsRow L 145 3 b r.1.length (aU r.1)
theorem rH.keep {L:Nat} {w w':World} {xs:List Value} {f:List ai} (h:rH L w xs f) (g:dT 145 w w'):rH L w' xs f:=by
 obtain⟨j,k,l⟩:=h
 refine⟨j,k,λi r m=>?_⟩
 obtain⟨n,a,b,c,d,e⟩:=l i r m
 exact⟨n,a,b,c,d,ex e g⟩
theorem rH.snoc {L:Nat} {w:World} {xs:List Value} {j:List ai} {cv:Value} {r:ai} (h:rH L w xs j) (o:wf r.2) (p:∀ c∈r.1,wf c.1/\wf c.2.1/\wf c.2.2) (n:w.ownsRow L 145 3 cv r.1.length (aU r.1)):rH L w (xs++[cv,.int .i64 r.2]) (j++[r]):=by
 obtain⟨k,q,s⟩:=h
 refine⟨by simp[k];omega,λu g=>?_,λi t f=>?_⟩
 ·rcases List.mem_append.1 g with g | g
  ·exact q u g
  ·obtain⟨a,v,rfl,_⟩:=ax n
   simp at g
   rcases g with rfl | rfl<;>rfl
 ·by_cases x:i<j.length
  ·rw[List.getElem?_append_left x] at f
   obtain⟨l,a,b,c,d,e⟩:=s i t f
   exact⟨l,by rw[List.getElem?_append_left (by omega)];exact a,by rw[List.getElem?_append_left (by omega)];exact b,c,d,e⟩
  ·have m:i=j.length:=by
    have:=(List.getElem?_eq_some_iff.1 f).1
    simp at this
    omega
   subst m
   simp at f
   subst f
   exact⟨cv,by rw[List.getElem?_append_right (by omega)];simp[k],by rw[List.getElem?_append_right (by omega)];simp[k],o,p,n⟩
def F3 (L d e b:Nat) (a:Bool) (c:List ai) (v:Value) (xs:List Value) (w:World):Prop:=
 w.heap[b]?=some (.cells #[.bool a] 4 (0,0))/\w.heap[e]?=some (.cells #[.func (.func 158) #[] #[.pointer (some ⟨b,0,none⟩)]] 58 (0,0))/\
 w.heap[d]?=some (.cells #[v,.int .i64 0] 30 (0,0))/\w.ownsRow L 142 2 v c.length xs/\rH L w xs c
def EP (L b c d:Nat) (a:Bool) (e:List ai) (w:World):Prop:=∃ v xs,F3 L b c d a e v xs w
theorem EP.later {L c d e:Nat} {a:Bool} {f:List ai} {w w':World} (h:EP L c d e a f w) (b:Below w.heap.size w w'):EP L c d e a f w':=by
 obtain⟨v,xs,g,i,j,k,l⟩:=h
 exact⟨v,xs,(b.block e (lt_of_block g)).trans g,(b.block d (lt_of_block i)).trans i,(b.block c (lt_of_block j)).trans j,au k b,l.keep (dT.of_below b)⟩
structure s6 (L:Nat) (W:World) (v:Value) (n:Nat) (xs:List Value) (rc sc:Value) (N:Nat) (cc:List Value) (vd:Int) (fs:Nat->Value->Prop) (w:World):Prop where
 grown:W.grownBy w v.ownBlock
 lits:∀ u,fs 6 u->∃ g T0 fr,u=.slice (some ⟨g,0,none⟩) 2 2/\W.heap.size<=g/\w.heap[g]?=some (.cells #[rc,sc] T0 fr)
 one:∀ u u',fs 7 u->fs 7 u'->u=u'
 join:∀ u,fs 7 u->w.ownsRow W.heap.size 145 3 u N cc
 build:∀ u,fs 14 u->∃ u7,fs 7 u7/\u=.agg #[u7,.int .i64 vd]
 made:∀ u,fs 15 u->∃ g T0 fr u7,u=.slice (some ⟨g,0,none⟩) 1 1/\W.heap.size<=g/\fs 7 u7/\w.heap[g]?=some (.cells #[u7,.int .i64 vd] T0 fr)
 row:(∀ u,¬fs 16 u)->w.ownsRow L 142 2 v n xs
 app:∀ u,fs 16 u->∃ u7,fs 7 u7/\w.ownsRow L 142 2 u (n+1) (xs++[u7,.int .i64 vd])/\(u.ownBlock=v.ownBlock\/∃ k,u.ownBlock=some k/\W.heap.size<=k)
section
variable {L:Nat} {W w w':World} {v:Value} {n:Nat} {xs:List Value} {rc sc:Value} {N:Nat} {cc:List Value} {vd:Int} {fs:Nat->Value->Prop}
theorem aj {fs:Nat->Value->Prop} {i k:Nat} {v u:Value} (b:k≠i) (a:bW fs i v k u):fs k u:=by
 rcases a with a | ⟨e,_⟩
 ·exact a
 ·exact absurd e b
theorem s6.start (h:W.ownsRow L 142 2 v n xs):s6 L W v n xs rc sc N cc vd (λ_ _=>False) W.drew:=
 ⟨⟨rfl,rfl,rfl,Nat.le_refl _,λ_ _ _=>rfl⟩,λ_ h=>h.elim,λ_ _ h=>h.elim,λ_ h=>h.elim,λ_ h=>h.elim,λ_ h=>h.elim,λ_=>h,λ_ h=>h.elim⟩
theorem s6.later (h:s6 L W v n xs rc sc N cc vd fs w) (b:Below w.heap.size w w'):s6 L W v n xs rc sc N cc vd fs w':=by
 refine⟨World.grownBy.andThen h.grown (qf b v.ownBlock) λj m=>.inr m,λu a=>?_,h.one,λu a=>au (h.join u a) b,h.build,λu a=>?_,λo=>au (h.row o) b,λu a=>?_⟩
 ·obtain⟨g,f,i,d,e,c⟩:=h.lits u a
  exact⟨g,f,i,d,e,(b.block g (lt_of_block c)).trans c⟩
 ·obtain⟨g,f,i,k,d,e,c,l⟩:=h.made u a
  exact⟨g,f,i,k,d,e,c,(b.block g (lt_of_block l)).trans l⟩
 ·obtain⟨k,d,e,c⟩:=h.app u a
  exact⟨k,d,au e b,c⟩
theorem s6.other (h:s6 L W v n xs rc sc N cc vd fs w) (k:Nat) (u:Value) (m:6≠k) (e:7≠k) (f:14≠k) (i:15≠k) (j:16≠k):s6 L W v n xs rc sc N cc vd (bW fs k u) w:=by
 refine⟨h.grown,λu a=>h.lits u (aj m a),λu o a l=>h.one u o (aj e a) (aj e l),λu a=>h.join u (aj e a),λu a=>?_,λu a=>?_,λp=>h.row λu a=>p u (.inl a),λu a=>?_⟩
 ·obtain⟨b,c,d⟩:=h.build u (aj f a)
  exact⟨b,.inl c,d⟩
 ·obtain⟨g,q,r,b,c,d,s,t⟩:=h.made u (aj i a)
  exact⟨g,q,r,b,c,d,.inl s,t⟩
 ·obtain⟨b,c,d⟩:=h.app u (aj j a)
  exact⟨b,.inl c,d⟩
theorem s6.lists (h:s6 L W v n xs rc sc N cc vd fs w) (b:TypeId):s6 L W v n xs rc sc N cc vd (bW fs 6 (.slice (some ⟨w.heap.size,0,none⟩) 2 2)) (w.alloc (.cells #[rc,sc] b)):=by
 have f:=h.grown.size
 have h:=h.later ((Below.refl w.heap.size w).alloc (Nat.le_refl _) (.cells #[rc,sc] b))
 refine⟨h.grown,λu a=>?_,λu j a i=>h.one u j (aj (by decide) a) (aj (by decide) i),λu a=>h.join u (aj (by decide) a),λu a=>?_,λu a=>?_,λk=>h.row λu a=>k u (.inl a),λu a=>?_⟩
 ·rcases a with a | ⟨_,rfl⟩
  ·exact h.lits u a
  ·exact⟨w.heap.size,b,(0,0),rfl,f,af _ _⟩
 ·obtain⟨c,d,e⟩:=h.build u (aj (by decide) a)
  exact⟨c,.inl d,e⟩
 ·obtain⟨g,b,l,c,d,e,m,o⟩:=h.made u (aj (by decide) a)
  exact⟨g,b,l,c,d,e,.inl m,o⟩
 ·obtain⟨c,d,e⟩:=h.app u (aj (by decide) a)
  exact⟨c,.inl d,e⟩
theorem s6.joined (h:s6 L W v n xs rc sc N cc vd fs w) (b:∀ u,¬fs 7 u) (j:Below w.heap.size w w') (u:Value) (k:w'.ownsRow w.heap.size 145 3 u N cc):s6 L W v n xs rc sc N cc vd (bW fs 7 u) w':=by
 have f:=h.grown.size
 have h:=h.later j
 refine⟨h.grown,λu a=>h.lits u (aj (by decide) a),λi l a c=>?_,λi a=>?_,λu a=>?_,λu a=>?_,λm=>h.row λu a=>m u (.inl a),λu a=>?_⟩
 ·rcases a with a | ⟨_,rfl⟩
  ·exact absurd a (b i)
  ·rcases c with c | ⟨_,rfl⟩
   ·exact absurd c (b l)
   ·rfl
 ·rcases a with a | ⟨_,rfl⟩
  ·exact absurd a (b i)
  ·exact cK k f
 ·obtain⟨d,e,_⟩:=h.build u (aj (by decide) a)
  exact absurd e (b d)
 ·obtain⟨g,q,r,d,e,o,p,s⟩:=h.made u (aj (by decide) a)
  exact absurd p (b d)
 ·obtain⟨d,e,o⟩:=h.app u (aj (by decide) a)
  exact absurd e (b d)
theorem s6.built (h:s6 L W v n xs rc sc N cc vd fs w) (d:Value) (e:fs 7 d):s6 L W v n xs rc sc N cc vd (bW fs 14 (.agg #[d,.int .i64 vd])) w:=by
 refine⟨h.grown,λu a=>h.lits u (aj (by decide) a),λu i a f=>h.one u i (aj (by decide) a) (aj (by decide) f),λu a=>h.join u (aj (by decide) a),λu a=>?_,λu a=>?_,λj=>h.row λu a=>j u (.inl a),λu a=>?_⟩
 ·rcases a with a | ⟨_,rfl⟩
  ·obtain⟨y,b,c⟩:=h.build u a
   exact⟨y,.inl b,c⟩
  ·exact⟨d,.inl e,rfl⟩
 ·obtain⟨g,k,l,y,b,c,m,o⟩:=h.made u (aj (by decide) a)
  exact⟨g,k,l,y,b,c,.inl m,o⟩
 ·obtain⟨y,b,c⟩:=h.app u (aj (by decide) a)
  exact⟨y,.inl b,c⟩
theorem s6.rule (h:s6 L W v n xs rc sc N cc vd fs w) (e:∀ u,¬fs 15 u) (b:Value) (a:fs 14 (.agg #[b,.int .i64 vd])) (f:TypeId):s6 L W v n xs rc sc N cc vd (bW fs 15 (.slice (some ⟨w.heap.size,0,none⟩) 1 1)) (w.alloc (.cells #[b,.int .i64 vd] f)):=by
 have g:=h.grown.size
 have i:fs 7 b:=by
  obtain⟨y,c,d⟩:=h.build _ a
  have:b=y:=by simpa using d
  rw[this]
  exact c
 have h:=h.later ((Below.refl w.heap.size w).alloc (Nat.le_refl _) (.cells #[b,.int .i64 vd] f))
 refine⟨h.grown,λu a=>h.lits u (aj (by decide) a),λu k a j=>h.one u k (aj (by decide) a) (aj (by decide) j),λu a=>h.join u (aj (by decide) a),λu a=>?_,λu a=>?_,λl=>h.row λu a=>l u (.inl a),λu a=>?_⟩
 ·obtain⟨y,c,d⟩:=h.build u (aj (by decide) a)
  exact⟨y,.inl c,d⟩
 ·rcases a with a | ⟨_,rfl⟩
  ·exact absurd a (e u)
  ·exact⟨w.heap.size,f,(0,0),b,rfl,g,.inl i,af _ _⟩
 ·obtain⟨y,c,d⟩:=h.app u (aj (by decide) a)
  exact⟨y,.inl c,d⟩
theorem s6.append (h:s6 L W v n xs rc sc N cc vd fs w) (q:∀ u,¬fs 16 u) (D:∀ k,v.ownBlock=some k->k<W.heap.size) (hL:L<=W.heap.size) (c:Value) (r:fs 15 c) (T:n<=100000) (U:TypeId):
  ∃ o w',(Builtin.append_ #[28,28] U #[v,c]).run Tryz.prog w=.ok o w'/\(∃ a s,o=.slice a (n+1) s)/\s6 L W v n xs rc sc N cc vd (bW fs 16 o) w':=by
 have a1:=ag
 obtain⟨g,T0,fr,C,rfl,hg,t,E⟩:=h.made c r
 have z:=h.row q
 have F:C.oneCell'=true:=by
  obtain⟨a,s,rfl,_⟩:=ax (h.join C t)
  rfl
 obtain⟨G,H,I,J,K⟩:∃ i,Tryz.prog.info? 142=some i/\i.zero=some (.agg #[.slice none 0 0,.int .i64 0])/\i.size=2/\i.bytes=32:=fD (by kernel_rfl)
 obtain⟨o,w',r1,V,X,_,r5⟩:=run_append_own_at (P:=Tryz.prog) w L 28 U 142 G _ 2 32 Tryz.underlying28 H I J K rfl (by decide) v n xs z ⟨g,0,none⟩ 1 1 [C,.int .i64 vd] rfl (λj u M=>by rw[dL,Nat.zero_add];exact ab E j (by simpa using M)) (by intro u b;simp at b;rcases b with rfl | rfl;exact F;rfl) (by omega) (by omega) (Nat.le_trans hL h.grown.size)
 have d:∀ p,W.heap.size<=p->∀ {x},w.heap[p]?=some x->w'.heap[p]?=some x:=λp a4 x Y=>by
  refine (X.block p (Array.getElem?_eq_some_iff.1 Y).1 λe=>?_).trans Y
  have:=D p e.symm
  omega
 obtain⟨a',A,e',_⟩:=ax V
 refine⟨o,w',r1,⟨a',A,e'⟩,World.grownBy.andThen h.grown X λj M=>.inr M,λu b=>?_,λu u' b O=>h.one u u' (aj (by decide) b) (aj (by decide) O),λu b=>?_,λu b=>?_,λu b=>?_,λT=>absurd (.inr ⟨rfl,rfl⟩) (T o),λu b=>?_⟩
 ·obtain⟨f,Q,l,B,m,R⟩:=h.lits u (aj (by decide) b)
  exact⟨f,Q,l,B,m,d f m R⟩
 ·exact ct (h.join u (aj (by decide) b)) λf a8 S Z=>(d f S Z).trans Z.symm
 ·obtain⟨y,B,m⟩:=h.build u (aj (by decide) b)
  exact⟨y,.inl B,m⟩
 ·obtain⟨f,Q,l,y7,B,m,R,e4⟩:=h.made u (aj (by decide) b)
  exact⟨f,Q,l,y7,B,m,.inl R,d f m e4⟩
 ·rcases b with b | ⟨_,rfl⟩
  ·exact absurd b (q u)
  ·refine⟨C,.inl t,V,?_⟩
   rcases r5 with e | e
   ·exact .inl e
   ·exact .inr ⟨_,e,h.grown.size⟩
end
end Go.Proofs.YtnpdhopjpjickaaGreatDoor
end
section
set_option linter.all false
set_option maxRecDepth 100000
namespace Go.Proofs.YtnpdhopjpjickaaGreatDoor
open Go.RowKit Go.Maps
def CV (W:World) (row:Option Nat):Type:={ w':World // W.grownBy w' row }
theorem CV.ne (W:World) (row:Option Nat):Nonempty (CV W row):=⟨⟨W,rfl,rfl,rfl,Nat.le_refl _,λ_ _ _=>rfl⟩⟩
theorem CV.cell {W:World} {row:Option Nat} (x:CV W row) {b o:Nat} {a:Array Value} {T:TypeId} {d:Nat × Nat} {u:Value} (h:W.heap[b]?=some (.cells a T d)) (c:some b≠row) (e:a[o]?=some u):x.1.cell? ⟨b,o,none⟩=some u:=ab ((x.2.block b (lt_of_block h) c).trans h) o e
theorem Ca {c:Bool} {a b:Int} (d:wf a) (e:wf b):wf (p8 c a b):=by
 unfold p8
 split
 ·exact d
 ·split
  ·unfold wf;decide
  ·exact e
def yW (w:World) (a b:Nat):Prop:=∀ v d,w.heap[a]?=some (.cells #[v,d] 30 (0,0))->v.ownBlock≠some b
theorem yW.later {w w':World} {a b:Nat} (h:yW w a b) (e:Below w.heap.size w w') (c:a<w.heap.size):yW w' a b:=λv d f=>h v d ((e.block a c).symm.trans f)
end Go.Proofs.YtnpdhopjpjickaaGreatDoor
end
