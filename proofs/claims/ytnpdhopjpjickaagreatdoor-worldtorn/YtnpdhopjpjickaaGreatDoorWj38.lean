/- Joined: OpenD OpenC DkK Wld0 Wor1 OpenW Wor2 Wor3 Wld1 EqE Kpt0 Wpl. -/
import Derived.Test.YtnpdhopjpjickaaGreatDoorWj23
import Derived.Test.YtnpdhopjpjickaaGreatDoorWj29
import Derived.Test.YtnpdhopjpjickaaGreatDoorWj31
import Derived.Deep.Strs
import Derived.Test.YtnpdhopjpjickaaGreatDoorWj36
import Derived.Test.YtnpdhopjpjickaaGreatDoorWj21
import Derived.Test.YtnpdhopjpjickaaGreatDoorWj37
import Derived.Test.YtnpdhopjpjickaaGreatDoorWj13
import Derived.Test.YtnpdhopjpjickaaGreatDoorWj01
import Derived.Test.YtnpdhopjpjickaaGreatDoorWj12
import Derived.Test.YtnpdhopjpjickaaGreatDoorWj35
section
set_option linter.all false
set_option maxRecDepth 100000
namespace Go.Proofs.YtnpdhopjpjickaaGreatDoor
open Go.ChangeShapes Go.WideShapes Go.ChangeAt Go.RowKit Go.Deep Go.Maps
theorem yA {H:Type} {r:TypeId × Value->H} {W:World} {j:Nat} {I:Nat->Bool} {k:Bool} {l:Nat} {cv:Value} {x:DataW H × List MemPlace} (h:DataW.trod r Tryz.prog W j I k l 23 [cv]=some x):∃ J,aJ W.heap.size W cv J:=by
 rcases open_slice Tryz.underlying23 h with ⟨o,_⟩ | ⟨a,e,s,m,n,D,V,o,_,X,K,t,_,u⟩
 ·simp at o
  subst o
  exact⟨[],none,0,rfl,Nat.le_refl _,Nat.zero_le _,λi c w=>by simp at w⟩
 ·simp at o
  subst o
  have L:Tryz.prog.cellsOf 5=1:=by kernel_rfl
  rw[L] at u
  have M:e<=m:=by rw[t];split<;>omega
  have p:∀ i,i<e->∃ c:UInt8,a=⟨a.block,a.off,none⟩/\a.block<W.heap.size/\W.cell? ⟨a.block,a.off+i,none⟩=some (.int .u8 (c.toNat:Int)):=by
   intro i Y
   have y:W.cell? (a.add 0)≠none:=by
    obtain⟨g,z,_⟩:=u 0 (by omega)
    obtain⟨_,d,b⟩:=World.cells?_some z
    have:=b 0 (by omega)
    rw[add_add] at this
    simp at this
    match g,d with
    | [N],_=>simp at this |-;rw[this];simp
   obtain⟨v,O⟩:=Option.ne_none_iff_exists'.1 y
   obtain⟨q,A⟩:=gn O
   obtain⟨g,z,P⟩:=u i (by omega)
   obtain⟨_,d,b⟩:=World.cells?_some z
   match g,d with
   | [N],_=>
    obtain⟨B,G,_,Q⟩:=DataW.trod_int Tryz.underlying5 P
    simp at G
    subst G
    have C:=b 0 (by omega)
    rw[add_add,q,dL] at C
    simp at C
    have Z:0<=B/\B<256:=by
     have R:IntKind.u8.min=0:=by decide
     have S:IntKind.u8.max=255:=by decide
     simp only[Lit.wf,Bool.and_eq_true,decide_eq_true_eq,R,S] at Q
     omega
    refine⟨UInt8.ofNat B.toNat,q,A,?_⟩
    rw[C]
    congr 2
    rw[UInt8.toNat_ofNat']
    omega
  obtain⟨T,E,F⟩:=ic _ e p
  refine⟨T,some a,s,by rw[E],by omega,K,λi f U=>?_⟩
  obtain⟨q,A,w⟩:=F i f U
  exact⟨a.block,a.off,by rw[<-q],A,w⟩
theorem pK {H:Type} {g:TypeId × Value->H} {W:World} {a:Nat} {p:Nat->Bool} {b:Bool} {c:Nat} {cv:Value} {x:DataW H × List MemPlace} (h:DataW.trod g Tryz.prog W a p b c 23 [cv]=some x) (j:∀ n∈x.1.weights Tryz.prog 23,n<=140737488351232):∃ f,aJ W.heap.size W cv f/\f.length<=140737488351232:=by
 obtain⟨f,d⟩:=yA h
 refine⟨f,d,?_⟩
 obtain⟨s,k,e,_⟩:=d
 subst e
 rcases open_slice Tryz.underlying23 h with ⟨i,_⟩ | ⟨t,l,o,m,n,D,u,i,_,_,_,_,q,_⟩
 ·simp at i
  omega
 ·simp at i
  rw[q] at j
  have r:Tryz.prog.bytesOf 5=1:=by kernel_rfl
  have:=j _ (by simp only[DataW.weights,Tryz.underlying23];exact List.mem_cons_self)
  rw[r] at this
  simp at this
  omega
end Go.Proofs.YtnpdhopjpjickaaGreatDoor
end
section
set_option linter.all false
set_option maxRecDepth 100000
namespace Go.Proofs.YtnpdhopjpjickaaGreatDoor
open Go.ChangeShapes Go.WideShapes Go.ChangeAt Go.RowKit Go.Deep Go.Maps
theorem xn {H:Type} {u:TypeId × Value->H} {W:World} {j:Nat} {Y:Nat->Bool} {o:Bool} {p:Nat} {cv:Value} {x:DataW H × List MemPlace} (h:DataW.trod u Tryz.prog W j Y o p 22 [cv]=some x):∃ l,bl W.heap.size W cv l:=by
 rcases open_slice Tryz.underlying22 h with ⟨q,_⟩ | ⟨a,f,w,m,n,D,Pl,q,_,hl,Z,y,_,z⟩
 ·simp at q
  subst q
  exact⟨[],none,0,rfl,Nat.le_refl _,Nat.zero_le _,λi c A=>by simp at A⟩
 ·simp at q
  subst q
  have h4:Tryz.prog.cellsOf 46=4:=by kernel_rfl
  have B:Tryz.prog.cellsOf 30=2:=by kernel_rfl
  have C:Tryz.prog.cellsOf 4=1:=by kernel_rfl
  have E:Tryz.prog.cellsOf 44=1:=by kernel_rfl
  rw[h4] at z
  have a1:f<=m:=by rw[y];split<;>omega
  have r:∀ i,i<f->∃ c:ay,a=⟨a.block,a.off,none⟩/\a.block<W.heap.size/\ia W.heap.size W a.block (a.off+i*4) c:=by
   intro i hi
   have F:W.cell? (a.add 0)≠none:=by
    obtain⟨g,G,_⟩:=z 0 (by omega)
    obtain⟨_,d,b⟩:=World.cells?_some G
    have:=b 0 (by omega)
    rw[add_add] at this
    simp at this
    match g,d with
    | [v0,N,O,v3],_=>simp at this |-;rw[this];simp
   obtain⟨v,hv⟩:=Option.ne_none_iff_exists'.1 F
   obtain⟨t,I⟩:=gn hv
   obtain⟨g,G,g2⟩:=z i (by omega)
   obtain⟨_,d,b⟩:=World.cells?_some G
   obtain⟨y0,y1,y2,k,_,_,P,Q,R⟩:=trod_struct3 Tryz.underlying46 g2
   match g,d with
   | [v0,N,O,v3],_=>
    simp[B,C,E] at P Q R
    obtain⟨ob,S,_⟩:=DataW.trod_bool Tryz.underlying4 P
    simp at S
    subst S
    obtain⟨ls,J⟩:=Am Q
    obtain⟨pp,s⟩:=qr R
    obtain⟨rv,e,hd,a9⟩:=id s
    simp at e
    obtain⟨rfl,rfl⟩:=e
    have T:=b 0 (by omega)
    have U:=b 1 (by omega)
    have V:=b 2 (by omega)
    have X:=b 3 (by omega)
    rw[add_add,t,dL] at T U V X
    exact⟨(ob,ls,pp),t,I,N,O,by simpa using T,by simpa [Nat.add_assoc] using U,by simpa [Nat.add_assoc] using V,by simpa [Nat.add_assoc] using X,J,s⟩
  obtain⟨l,K,L⟩:=ic _ f r
  refine⟨l,some a,w,by rw[K],by omega,Z,λi c A=>?_⟩
  obtain⟨t,I,M⟩:=L i c A
  exact⟨a.block,a.off,by rw[<-t],I,M⟩
end Go.Proofs.YtnpdhopjpjickaaGreatDoor
end
section
set_option linter.all false
set_option maxRecDepth 100000
namespace Go.Proofs.YtnpdhopjpjickaaGreatDoor
theorem oH:(∀ k,k<5->(10:UInt8) ∉ vN.getD k [])/\(∀ k,k<5->(10:UInt8) ∉ fN.getD k [])/\(∀ k,k<4->fk.getD k 0≠10)/\∀ k,k<4->(10:UInt8) ∉ kN.getD k []:=by decide
theorem vl {n:Int} (h:0<=n):(10:UInt8) ∉ Lib.itoa n:=by
 have e:Lib.itoa n=Lib.decDigits n.toNat:=by unfold Lib.itoa;rw[if_neg (by omega)]
 rw[e]
 intro a
 have:=gh _ _ a
 have b:(10:UInt8).toNat=10:=rfl
 omega
theorem Dw {c:aB} (h:aW c=0):(10:UInt8) ∉ bR c:=by
 obtain⟨f,o,n⟩:=c
 obtain⟨e,g,d⟩:=eG h
 simp only[] at e g d
 obtain⟨i,rfl⟩:∃ k:Nat,f=k:=⟨f.toNat,by omega⟩
 obtain⟨b,rfl⟩:∃ k:Nat,o=(k:Int)+1:=⟨(o-1).toNat,by omega⟩
 have j:=oH.2.1 i (by omega)
 have l:=oH.2.2.1 b (by omega)
 have m:=vl d.1
 intro a
 unfold bR at a
 simp only[List.mem_cons,List.mem_append] at a
 rcases a with a | a | a | a
 ·exact absurd a (by decide)
 ·unfold fM at a;simp only[Int.toNat_natCast] at a;exact j a
 ·unfold gH at a
  rw[show ((b:Int)+1-1).toNat=b by omega] at a
  exact l a.symm
 ·exact m a
theorem rM {v:Int} (h:bi v=true):(10:UInt8) ∉ cJ v:=by
 have a:0<=v/\v<=4:=by unfold bi at h;simp at h;omega
 obtain⟨k,rfl⟩:∃ k:Nat,v=k:=⟨v.toNat,by omega⟩
 have:=oH.1 k (by omega)
 unfold cJ
 simpa using this
theorem E4 {p:ap} (h:ae p=0):(10:UInt8) ∉ cM p:=by
 obtain⟨_,b,d⟩:=cu h
 intro a
 unfold cM at a
 rcases List.mem_append.1 a with a | a
 ·obtain⟨r,e,a⟩:=List.mem_flatMap.1 a
  obtain⟨_,f,g⟩:=db (bZ d r e)
  unfold ck at a
  rcases List.mem_append.1 a with a | a
  ·rcases List.mem_append.1 a with a | a
   ·exact rM f a
   ·obtain⟨c,i,a⟩:=List.mem_flatMap.1 a
    exact Dw (eM g c i) a
  ·simp at a
 ·exact rM b a
theorem uY {r:al} (h:bF r=0):(10:UInt8) ∉ aG r:=by
 obtain⟨g,d,e,_,b⟩:=gY h
 obtain⟨k,i⟩:∃ k:Nat,r.1=(k:Int)+1:=⟨(r.1-1).toNat,by omega⟩
 have c:k<4:=by omega
 have f:=oH.2.2.2 k c
 intro a
 unfold aG at a
 rw[show (r.1-1).toNat=k by omega] at a
 rcases List.mem_append.1 a with a | a
 ·exact f a
 ·rcases List.mem_cons.1 a with a | a
  ·exact absurd a (by decide)
  ·rcases List.mem_append.1 a with a | a
   ·exact vl d.1 a
   ·split at a
    ·rcases List.mem_cons.1 a with a | a
     ·exact absurd a (by decide)
     ·exact vl e.1 a
    ·split at a
     ·cases a
     ·rename_i j l
      rcases b with ⟨_,b⟩ | ⟨b,_⟩
      ·rcases List.mem_cons.1 a with a | a
       ·exact absurd a (by decide)
       ·exact E4 b a
      ·omega
def aM (a:List al):Bs:=a.flatMap λr=>aG r++[10]
def qE (a:List al):Prop:=∀ r∈a,bF r=0/\(aG r).length<=60000
theorem qj (r:al) (a:List al):aM (r :: a)=aG r++10 :: aM a:=by unfold aM;simp
theorem nb (a b:List al):aM (a++b)=aM a++aM b:=by unfold aM;simp
theorem gx (a:List al) (r:al):aM (a++[r])=aM a++(aG r++[10]):=by unfold aM;simp
theorem lF:∀ (a:List al) (aF:Nat) (t:Bs),qE a->a.length<=aF->aI aF (aM a++t)=(a++(aI (aF-a.length) t).1,(aM a).length+(aI (aF-a.length) t).2.1,(aI (aF-a.length) t).2.2)
 | [],aF,t,_,_=>by simp[aM]
 | r :: a,0,t,_,h=>by simp at h
 | r :: a,aF+1,t,b,h=>by
  obtain⟨c,d⟩:=b r (by simp)
  have e:=lF a aF t (λq f=>b q (by simp[f])) (by simpa using h)
  rw[qj,List.append_assoc,List.cons_append,ip _ _ _ (uY c),rq c d]
  simp only[if_true]
  rw[e]
  simp only[List.length_cons,Nat.add_sub_add_right,List.cons_append,List.length_append,Prod.mk.injEq,true_and,and_true]
  omega
theorem mu {a:List al} {aF:Nat} (b:qE a) (h:a.length<=aF):aI aF (aM a)=(a,(aM a).length,0):=by
 have:=lF a aF [] b h
 rw[List.append_nil,i9] at this
 simpa using this
end Go.Proofs.YtnpdhopjpjickaaGreatDoor
end
section
set_option linter.all false
set_option maxRecDepth 100000
namespace Go.Proofs.YtnpdhopjpjickaaGreatDoor
theorem oX:∀ (n aF:Nat) (s:Bs),s.length<=n->s.length<=60000->s.take (aI aF s).2.1=aM (aI aF s).1/\qE (aI aF s).1/\(aI aF s).1.length<=aF/\(aI aF s).2.1<=s.length/\((aI aF s).2.2=0->(aI aF s).2.1=s.length)
 | n,aF,s,e,g=>by
  cases hc:fU s with
  | none=>
   have c:=rJ hc
   by_cases i:s=[]
   ·subst i
    rw[i9]
    exact⟨rfl,λr b=>(by cases b),Nat.zero_le _,Nat.le_refl _,λ_=>rfl⟩
   ·rw[lC aF s c i]
    exact⟨by simp[aM],λr b=>(by cases b),Nat.zero_le _,Nat.zero_le _,λh=>by cases h⟩
  | some x=>
   obtain⟨a,t⟩:=x
   have o:=mE hc
   obtain⟨rfl,c⟩:=gm hc
   rw[ip aF a t c]
   by_cases b:(dS a).2=0
   ·rw[if_pos b]
    have f:=Cp (s:=a) (r:=(dS a).1) (by rw[<-b]) (by omega)
    match aF with
    | 0=>exact⟨by simp[aM],λr b=>(by cases b),Nat.zero_le _,Nat.zero_le _,λh=>by cases h⟩
    | m+1=>
     match n,e with
     | 0,e=>simp at e
     | n+1,e=>
      obtain⟨j,k,p,q,l⟩:=oX n m t (by simp at e;omega) (by simp at g;omega)
      simp only
      refine⟨?_,?_,by simp;omega,by simp;omega,λh=>by have:=l h;simp;omega⟩
      ·rw[qj,f.2,<-j,List.take_append,List.take_of_length_le (by omega),show a.length+1+(aI m t).2.1-a.length=(aI m t).2.1+1 by omega,List.take_succ_cons]
      ·intro r d
       rcases List.mem_cons.1 d with rfl | d
       ·exact⟨f.1,by rw[f.2];simp at g;omega⟩
       ·exact k r d
   ·rw[if_neg b]
    exact⟨by simp[aM],λr b=>(by cases b),Nat.zero_le _,Nat.zero_le _,λh=>absurd h b⟩
theorem rY {d:bA} (h:az d=0):∃ e,d.1=aM e/\qE e/\e.length<=40/\aI 40 d.1=(e,d.1.length,0)/\d.1.length+d.2.length<=60000:=by
 obtain⟨j,o,k,f⟩:=dK h
 obtain⟨i,l,m,p,n⟩:=oX d.1.length 40 d.1 (Nat.le_refl _) j
 have g:=n f
 rw[g,List.take_length] at i
 refine⟨_,i,l,m,?_,k⟩
 generalize aI 40 d.1=x at*
 obtain⟨a,b,c⟩:=x
 simp only at f g |-
 rw[f,g]
theorem eQ {a:List al} (b:qE a) (c:a.length<=40) {t:Bs} (d:(aM a).length+t.length<=60000):az (aM a,t)=0:=yJ d (by rw[mu b c])
theorem kx {a:List al} (b:qE a) (c:a.length<=40) (e:(aM a).length<=60000):cR (aM a,[])=a/\fX (aM a,[])=(aM a,[]):=by
 have d:=eQ (t:=[]) b c (by simpa using e)
 unfold cR fX
 rw[if_pos d,if_pos d]
 unfold ph px km
 rw[mu b c]
 simp only
 rw[i9]
 simp
theorem Bo {d:bA} (h:az d=0):∃ a,cR d=a/\fX d=(aM a,[])/\qE a/\a.length<=40/\(aM a).length<=60000:=by
 obtain⟨a,e,g,j,c,k⟩:=rY h
 obtain⟨f,i,l,m,-⟩:=oX d.2.length (40-a.length) d.2 (Nat.le_refl _) (by omega)
 refine⟨a++(aI (40-a.length) d.2).1,?_,?_,λr b=>?_,by simp;omega,?_⟩
 ·unfold cR ph km
  rw[if_pos h,c]
 ·unfold fX px km
  rw[if_pos h,c]
  simp only
  rw[f,nb,<-e]
 ·rcases List.mem_append.1 b with b | b
  ·exact g r b
  ·exact i r b
 ·rw[nb,<-e,<-f,List.length_append,List.length_take]
  omega
abbrev aq:=List ay × bA × Bool
def fF:aq:=([],([],[]),false)
def xF (w:aq):List al:=if w.2.2=true then cR w.2.1 else []
def cg (w:aq):Int:=if az w.2.1=0 then (if w.2.2=true/\w.2.1.2≠[] then 4 else if (aK (xF w)).2=0 then (if (aK (xF w)).1=w.1 then 0 else 4) else (aK (xF w)).2) else az w.2.1
theorem yQ:aK []=(aA,0):=rfl
theorem uU (cs:List ay) (d:bA):cg (cs,d,true)=if az d=0 then (if d.2≠[] then 4 else if (aK (cR d)).2=0 then (if (aK (cR d)).1=cs then 0 else 4) else (aK (cR d)).2) else az d:=by
 have b:xF (cs,d,true)=cR d:=rfl
 unfold cg
 rw[b]
 by_cases a:d.2=[]
 ·rw[if_neg (show ¬((cs,d,true).2.2=true/\(cs,d,true).2.1.2≠[]) from λe=>e.2 a),if_neg (show ¬(d.2≠[]) from λe=>e a)]
 ·rw[if_pos (show (cs,d,true).2.2=true/\(cs,d,true).2.1.2≠[] from ⟨rfl,a⟩),if_pos (show d.2≠[] from a)]
theorem my (cs:List ay) (d:bA):cg (cs,d,false)=if az d=0 then (if aA=cs then 0 else 4) else az d:=by
 have a:xF (cs,d,false)=[]:=rfl
 unfold cg
 rw[a,yQ,if_neg (show ¬((cs,d,false).2.2=true/\(cs,d,false).2.1.2≠[]) from λe=>by cases e.1),if_pos rfl]
def aP (x:al):al:=if x.1=3 then (3,x.2.1,x.2.2.1,[],0) else if x.1=4 then (4,x.2.1,0,[],0) else if x.1=1 then (1,x.2.1,0,x.2.2.2) else (2,x.2.1,0,x.2.2.2)
def jL (n:Int) (m:Nat):Nat:=min n.toNat m
def bD (w:aq) (x:al):Int:=
 if x.1<1\/7<x.1 then 4
 else if w.2.2=decide (x.1=6) then 6
 else if x.1=5 then 0
 else if x.1=6 then (aK (cR w.2.1)).2
 else if dj w.1 (aP x)=0 then (if eH w.2.1 (aP x)=0 then (if x.1=7 then 0 else eX (f6 w.2.1 (aP x))) else eH w.2.1 (aP x)) else dj w.1 (aP x)
def fH (w:aq) (x:al):aq:=
 if x.1=5 then (aA,w.2.1,false)
 else if x.1=6 then ((aK (cR w.2.1)).1,fX w.2.1,true)
 else if x.1=7 then (aA,(w.2.1.1,(f6 w.2.1 (aP x)).2.take (jL x.2.2.1 (f6 w.2.1 (aP x)).2.length)),false)
 else (ez w.1 (aP x),gN (f6 w.2.1 (aP x)),true)
def d8 (w:aq) (x:al):aq:=if bD w x=0 then fH w x else fF
def fI (w:aq) (x:al):Int:=if cg w=0 then bD w x else cg w
def fp (w:aq) (x:al):aq:=if fI w x=0 then d8 w x else fF
def iq:aq:=(aA,([],[]),true)
def qD (w:aq) (a:List al):Prop:=w=((aK a).1,(aM a,[]),true)/\qE a/\a.length<=40/\(aM a).length<=60000/\(aK a).2=0
theorem qD.right {w:aq} {d:List al} (h:qD w d):cg w=0:=by
 obtain⟨rfl,a,b,c,e⟩:=h
 rw[uU,if_pos (eQ a b (by simpa using c)),if_neg (by simp),(kx a b c).1,if_pos e,if_pos rfl]
theorem q9 {w:aq} (h:cg w=0) (j:w.2.2=true):∃ a,qD w a:=by
 obtain⟨n,d,u⟩:=w
 simp only at j
 subst j
 rw[uU] at h
 by_cases f:az d=0
 ·rw[if_pos f] at h
  by_cases i:d.2≠[]
  ·rw[if_pos i] at h
   cases h
  ·rw[if_neg i] at h
   have b:d.2=[]:=Classical.byContradiction λe=>i e
   obtain⟨a,e,k,l,-,o⟩:=rY f
   obtain⟨s,t⟩:=d
   simp only at e b
   subst e b
   have c:(aM a).length<=60000:=by simp at o;omega
   rw[(kx k l c).1] at h
   by_cases g:(aK a).2=0
   ·rw[if_pos g] at h
    by_cases m:(aK a).1=n
    ·subst m
     exact⟨a,rfl,k,l,c,g⟩
    ·rw[if_neg m] at h
     cases h
   ·rw[if_neg g] at h
    exact absurd h g
 ·rw[if_neg f] at h
  exact absurd h f
theorem nq (d:bA) (h:az d=0):cg (aA,d,false)=0:=by
 rw[my,if_pos h,if_pos rfl]
theorem lq {a:List al} {r:al} (c:a.length+1<=40) (h:(aK a).2=0) (b:dj (aK a).1 r=0):aK (a++[r])=(ez (aK a).1 r,0):=by
 unfold aK at h b |-
 rw[if_neg (by omega)] at h b
 rw[if_neg (by rw[List.length_append,List.length_cons,List.length_nil];omega),if_neg (by omega),List.foldl_append]
 generalize a.foldl d9 (aA,0)=s at*
 show d9 s r=_
 unfold d9
 rw[if_pos h,if_pos b]
theorem vJ {a:List al} {r:al} (f:qE a) (g:a.length<=40) (i:(aM a).length<=60000) (h:eH (aM a,[]) r=0):bF r=0/\(aG r).length<=60000/\f6 (aM a,[]) r=(aM a,aG r++[10])/\(aM a).length+(aG r++[10]).length<=60000:=by
 have j:=eQ (t:=[]) f g (by simpa using i)
 have c:f6 (aM a,[]) r=(aM a,[]++(gL r++[10])):=by unfold f6;rw[if_pos h]
 unfold eH BW at h
 rw[if_pos j] at h
 by_cases b:bF r=0
 ·have d:gL r=aG r:=by unfold gL;rw[if_pos b]
  rw[if_pos b,d] at h
  rw[d] at c
  by_cases e:60000<(aM a,([]:Bs)).1.length+(aM a,([]:Bs)).2.length+(aG r).length+1
  ·rw[if_pos e] at h
   cases h
  ·simp at e
   exact⟨b,by omega,by rw[c];rfl,by simp;omega⟩
 ·rw[if_neg b] at h
  exact absurd h b
theorem tT {b:List al} {r:al} (c:qE b) (d:bF r=0) (e:(aG r).length<=60000):qE (b++[r]):=λq a=>by
 rcases List.mem_append.1 a with a | a
 ·exact c q a
 ·simp at a
  subst a
  exact⟨d,e⟩
theorem zS {a:List al} {r:al} (c:qE a) (m:a.length<=40) (d:bF r=0) (i:(aG r).length<=60000) (j:(aM a).length+(aG r++[10]).length<=60000):eX (aM a,aG r++[10])=(if a.length+1<=40 then 0 else 2)/\(a.length+1<=40->gN (aM a,aG r++[10])=(aM (a++[r]),[])):=by
 have n:=eQ (t:=aG r++[10]) c m j
 have k:eX (aM a,aG r++[10])=az (aM (a++[r]),[]):=by
  unfold eX Cf
  rw[if_pos n,gx]
 have b:(aM (a++[r])).length<=60000:=by rw[gx,List.length_append];exact j
 have f:=tT c d i
 by_cases g:a.length+1<=40
 ·have l:eX (aM a,aG r++[10])=0:=by rw[k];exact eQ f (by simp;omega) (by simpa using b)
  refine⟨by rw[if_pos g,l],λ_=>?_⟩
  unfold gN
  rw[if_pos l,gx]
 ·refine⟨?_,λh=>absurd h g⟩
  rw[if_neg g,k]
  have o:a.length=40:=by omega
  have e:aI 40 (aM (a++[r]))=(a,(aM a).length,2):=by
   rw[gx]
   have:=lF a 40 (aG r++[10]) c (by omega)
   rw[this,show 40-a.length=0 by omega,ip 0 (aG r) [] (uY d),rq d i]
   simp
  unfold az
  simp only
  rw[if_neg (by simp only[List.length_nil];omega),e]
end Go.Proofs.YtnpdhopjpjickaaGreatDoor
end
section
set_option linter.all false
set_option maxRecDepth 100000
namespace Go.Proofs.YtnpdhopjpjickaaGreatDoor
open Go.RowKit Go.Maps
theorem dD {w:World} {b:Nat} {a c d e:Value} {T:TypeId} (h:w.heap[b]?=some (.cells #[a,c,d,e] T (0,0))):(w.cell? ⟨b,0,none⟩=some a/\w.cell? ⟨b,1,none⟩=some c/\w.cell? ⟨b,2,none⟩=some d/\w.cell? ⟨b,3,none⟩=some e)/\w.frozen? ⟨b,0,none⟩=false/\w.frozen? ⟨b,1,none⟩=false/\w.frozen? ⟨b,2,none⟩=false/\w.frozen? ⟨b,3,none⟩=false:=
 ⟨⟨ab h 0 rfl,ab h 1 rfl,ab h 2 rfl,ab h 3 rfl⟩,by simp[World.frozen?,h],by simp[World.frozen?,h],by simp[World.frozen?,h],by simp[World.frozen?,h]⟩
def aC (B:Nat) (w:World) (v:Value) (x:aq):Prop:=∃ a b c,v=.agg #[a,b,c,.bool x.2.2]/\bl B w a x.1/\aJ B w b x.2.1.1/\aJ B w c x.2.1.2
theorem aC.later {B c:Nat} {w w':World} {v:Value} {x:aq} (h:aC B w v x) (a:Below c w w') (b:B<=c):aC B w' v x:=by
 obtain⟨d,e,f,g,i,j,k⟩:=h
 exact⟨d,e,f,g,i.later a b,j.later a b,k.later a b⟩
theorem aC.shape {B:Nat} {w:World} {v:Value} {x:aq} (h:aC B w v x):∃ a b c d e f,v=.agg #[.slice a x.1.length b,.slice c x.2.1.1.length d,.slice e x.2.1.2.length f,.bool x.2.2]/\bl B w (.slice a x.1.length b) x.1/\ei B w (.agg #[.slice c x.2.1.1.length d,.slice e x.2.1.2.length f]) x.2.1:=by
 obtain⟨n,o,p,rfl,g,i,j⟩:=h
 obtain⟨a,b,k,-⟩:=id g
 obtain⟨c,d,l,-⟩:=id i
 obtain⟨e,f,m,-⟩:=id j
 subst k l m
 exact⟨a,b,c,d,e,f,rfl,g,_,_,rfl,i,j⟩
def mx (K:Nat->Prop) (w:World) (v:Value) (x:aq):Prop:=∀ a,Kx K w a->aC a.heap.size a v x
theorem mx.later {K a:Nat->Prop} {w w':World} {v:Value} {x:aq} (h:mx K w v x) (b:Below w.heap.size w w') (c:∀ k,k<w.heap.size->a k->K k):mx a w' v x:=λd e=>h d (e.back b c)
theorem mx.cells {K:Nat->Prop} {w:World} {cv sv tv:Value} {u:Bool} {x:aq} (h:mx K w (.agg #[cv,sv,tv,.bool u]) x):y6 K w cv x.1:=λa b=>by
 obtain⟨c,s,t,e,d,-,-⟩:=h a b
 simp at e
 obtain⟨rfl,-⟩:=e
 exact d
theorem wg (K:Nat->Prop) (w:World):mx K w (.agg #[.slice none 0 0,.slice none 0 0,.slice none 0 0,.bool false]) fF:=λ_ _=>⟨_,_,_,rfl,qt _ _,⟨none,0,rfl,Nat.le_refl _,Nat.zero_le _,λi b h=>by simp[fF] at h⟩,⟨none,0,rfl,Nat.le_refl _,Nat.zero_le _,λi b h=>by simp[fF] at h⟩⟩
end Go.Proofs.YtnpdhopjpjickaaGreatDoor
end
section
set_option linter.all false
set_option maxRecDepth 100000
namespace Go.Proofs.YtnpdhopjpjickaaGreatDoor
open Go.ChangeShapes Go.WideShapes Go.ChangeAt Go.RowKit Go.Deep Go.Maps
theorem zC {H:Type} {u:TypeId × Value->H} {W:World} {j:Nat} {sp:Nat->Bool} {l:Bool} {o:Nat} {cv:Value} {x:DataW H × List MemPlace} (h:DataW.trod u Tryz.prog W j sp l o 52 [cv]=some x):∃ w,bX W.heap.size W cv w:=by
 rcases open_slice Tryz.underlying52 h with ⟨p,_⟩ | ⟨a,f,y,m,n,D,Pl,p,_,hl,hm,z,_,A⟩
 ·simp at p
  subst p
  exact⟨[],none,0,rfl,Nat.le_refl _,Nat.zero_le _,λi c B=>by simp at B⟩
 ·simp at p
  subst p
  have h5:Tryz.prog.cellsOf 32=5:=by kernel_rfl
  have C:Tryz.prog.cellsOf 30=2:=by kernel_rfl
  have E:Tryz.prog.cellsOf 3=1:=by kernel_rfl
  rw[h5] at A
  have a3:f<=m:=by rw[z];split<;>omega
  have q:∀ i,i<f->∃ r:al,a=⟨a.block,a.off,none⟩/\a.block<W.heap.size/\ud W.heap.size W a.block (a.off+i*5) r:=by
   intro i hi
   have F:W.cell? (a.add 0)≠none:=by
    obtain⟨g,G,_⟩:=A 0 (by omega)
    obtain⟨_,d,b⟩:=World.cells?_some G
    have:=b 0 (by omega)
    rw[add_add] at this
    simp at this
    match g,d with
    | [v0,v1,v2,I,v4],_=>simp at this |-;rw[this];simp
   obtain⟨v,hv⟩:=Option.ne_none_iff_exists'.1 F
   obtain⟨t,J⟩:=gn hv
   obtain⟨g,G,g2⟩:=A i (by omega)
   obtain⟨_,d,b⟩:=World.cells?_some G
   obtain⟨y0,y1,y2,y3,k,_,_,N,O,P,Q⟩:=Go.Joins.trod_struct4 Tryz.underlying32 g2
   match g,d with
   | [v0,v1,v2,I,v4],_=>
    simp[C,E] at N O P Q
    obtain⟨k0,R,_,w0⟩:=DataW.trod_int Tryz.underlying3 N
    obtain⟨k1,S,_,w1⟩:=DataW.trod_int Tryz.underlying3 O
    obtain⟨k2,T,_,w2⟩:=DataW.trod_int Tryz.underlying3 P
    simp at R S T
    subst R S T
    obtain⟨pp,s⟩:=qr Q
    obtain⟨rv,e,hd,b1⟩:=id s
    simp at e
    obtain⟨rfl,rfl⟩:=e
    have U:=b 0 (by omega)
    have V:=b 1 (by omega)
    have X:=b 2 (by omega)
    have Y:=b 3 (by omega)
    have Z:=b 4 (by omega)
    rw[add_add,t,dL] at U V X Y Z
    exact⟨(k0,k1,k2,pp),t,J,I,by simpa using U,by simpa [Nat.add_assoc] using V,by simpa [Nat.add_assoc] using X,by simpa [Nat.add_assoc] using Y,by simpa [Nat.add_assoc] using Z,I,rfl,w0,w1,w2,s⟩
  obtain⟨w,K,L⟩:=ic _ f q
  refine⟨w,some a,y,by rw[K],by omega,hm,λi c B=>?_⟩
  obtain⟨t,J,M⟩:=L i c B
  exact⟨a.block,a.off,by rw[<-t],J,M⟩
theorem Ej {H:Type} {e:TypeId × Value->H} {W:World} {r:Reach} {l b:Nat} {k:Nat->Bool} {c:Bool} {v:Value} {d:DataW H} {p:List MemPlace}
  (m:Value.okWide Tryz.prog W r l 52 v) (h:DataW.Trod e Tryz.prog W b k c 52 v d p):∃ n,bX W.heap.size W v n:=by
 obtain⟨a,g,i,rfl⟩:=okWide_slice Tryz.underlying52 m
 obtain⟨f,o⟩:=h
 have j:DataW.trod e Tryz.prog W b k c f 52 [.slice a g i]=some (d,p):=o
 exact zC j
theorem DG {H:Type} {j:TypeId × Value->H} {W:World} {r:Reach} {K c:Nat} {L:Nat->Bool} {f:Bool} {v:Value} {d:DataW H} {p:List MemPlace}
  (M:Value.okWide Tryz.prog W r K 27 v) (h:DataW.Trod j Tryz.prog W c L f 27 v d p) (z:∀ n∈d.weights Tryz.prog 27,n<=140737488351232):∃ x,aC W.heap.size W v x/\x.2.1.1.length+x.2.1.2.length<=300000000000000:=by
 obtain⟨N,rfl,g⟩:=nj Tryz.underlying27 M
 obtain⟨A,O⟩:=h
 obtain⟨P,k,Q,n,e,_,B,C,D⟩:=trod_struct3 Tryz.underlying27 O
 have R:Tryz.prog.cellsOf 27=4:=by kernel_rfl
 have S:Tryz.prog.cellsOf 25=2:=by kernel_rfl
 have o:Tryz.prog.cellsOf 23=1:=by kernel_rfl
 have q:Tryz.prog.cellsOf 22=1:=by kernel_rfl
 have u:Tryz.prog.cellsOf 4=1:=by kernel_rfl
 rw[R] at g
 have T:d=.agg [P.1,k.1,Q.1]:=congrArg Prod.fst e
 rw[T] at z
 have w:∀ n∈k.1.weights Tryz.prog 25,n<=140737488351232:=λn i=>z n (by simp[DataW.weights,Tryz.underlying27,DataW.weightsEach,i])
 obtain⟨l⟩:=N
 match l,g with
 | [U,V,X,c3],_=>
  simp[Value.cells,q,S,u] at B C D
  obtain⟨b,a⟩:=xn B
  obtain⟨Y,E,_⟩:=DataW.trod_bool Tryz.underlying4 D
  simp at E
  subst E
  obtain⟨F,G,m,Z,_,I,J⟩:=trod_struct2 Tryz.underlying25 C
  have y:k.1=.agg [F.1,G.1]:=congrArg Prod.fst Z
  rw[y] at w
  have v0:∀ n∈F.1.weights Tryz.prog 23,n<=140737488351232:=λn i=>w n (by simp[DataW.weights,Tryz.underlying25,DataW.weightsEach,i])
  have v1:∀ n∈G.1.weights Tryz.prog 23,n<=140737488351232:=λn i=>w n (by simp[DataW.weights,Tryz.underlying25,DataW.weightsEach,i])
  simp[o] at I J
  obtain⟨s,hs,a3⟩:=pK I v0
  obtain⟨t,ht,a5⟩:=pK J v1
  exact⟨(b,(s,t),Y),⟨U,V,X,rfl,a,hs,ht⟩,by simp only[];omega⟩
end Go.Proofs.YtnpdhopjpjickaaGreatDoor
end
section
set_option linter.all false
set_option maxRecDepth 100000
namespace Go.Proofs.YtnpdhopjpjickaaGreatDoor
open Go.RowKit Go.Maps
end Go.Proofs.YtnpdhopjpjickaaGreatDoor
end
section
set_option linter.all false
set_option maxRecDepth 100000
namespace Go.Proofs.YtnpdhopjpjickaaGreatDoor
open Go.RowKit Go.Maps
def uR (w:World) (a b:Array Value):World:=((w.alloc (.cells a 27)).alloc (.cells b 32)).alloc (.cells #[.slice none 0 0,.slice none 0 0,.slice none 0 0,.bool false] 27)
theorem qL (w:World) (a b:Array Value):Below w.heap.size w (uR w a b)/\(uR w a b).heap[w.heap.size]?=some (.cells a 27 (0,0))/\(uR w a b).heap[w.heap.size+1]?=some (.cells b 32 (0,0))/\(uR w a b).heap[w.heap.size+1+1]?=some (.cells #[.slice none 0 0,.slice none 0 0,.slice none 0 0,.bool false] 27 (0,0)):=by
 unfold uR
 refine⟨(((Below.refl _ _).alloc (Nat.le_refl _) _).alloc (by simp) _).alloc (by simp;omega) _,?_,?_,?_⟩
 ·rw[Below.heap_alloc _ _ _ (by simp;omega),Below.heap_alloc _ _ _ (by simp)]
  exact af _ _
 ·rw[Below.heap_alloc _ _ _ (by simp)]
  have:=af (w.alloc (.cells a 27)) (.cells b 32)
  rw[World.size_alloc] at this
  exact this
 ·have:=af ((w.alloc (.cells a 27)).alloc (.cells b 32)) (.cells #[.slice none 0 0,.slice none 0 0,.slice none 0 0,.bool false] 27)
  rw[World.size_alloc,World.size_alloc] at this
  exact this
end Go.Proofs.YtnpdhopjpjickaaGreatDoor
end
section
set_option linter.all false
set_option maxRecDepth 100000
namespace Go.Proofs.YtnpdhopjpjickaaGreatDoor
theorem jV {w:aq} {x:al} (h:fI w x=0):cg w=0/\bD w x=0/\fp w x=fH w x:=by
 have b:=h
 unfold fI at h
 by_cases a:cg w=0
 ·rw[if_pos a] at h
  refine⟨a,h,?_⟩
  unfold fp d8
  rw[if_pos b,if_pos h]
 ·rw[if_neg a] at h
  exact absurd h a
theorem iJ {w:aq} {x:al} (h:bD w x=0):(1<=x.1/\x.1<=7)/\w.2.2≠decide (x.1=6)/\(x.1=6->(aK (cR w.2.1)).2=0)/\(x.1≠5->x.1≠6->dj w.1 (aP x)=0/\eH w.2.1 (aP x)=0/\(x.1≠7->eX (f6 w.2.1 (aP x))=0)):=by
 unfold bD at h
 by_cases d:x.1<1\/7<x.1
 ·rw[if_pos d] at h;cases h
 ·rw[if_neg d] at h
  by_cases c:w.2.2=decide (x.1=6)
  ·rw[if_pos c] at h;cases h
  ·rw[if_neg c] at h
   refine⟨by omega,c,λe=>?_,λf g=>?_⟩
   ·rw[if_neg (by omega),if_pos e] at h
    exact h
   ·rw[if_neg f,if_neg g] at h
    by_cases a:dj w.1 (aP x)=0
    ·rw[if_pos a] at h
     by_cases b:eH w.2.1 (aP x)=0
     ·rw[if_pos b] at h
      refine⟨a,b,λi=>?_⟩
      rw[if_neg i] at h
      exact h
     ·rw[if_neg b] at h
      exact absurd h b
    ·rw[if_neg a] at h
     exact absurd h a
theorem BD {w:aq} {x:al} (h:w.2.2≠decide (x.1=6)) (a:x.1≠6):w.2.2=true:=by
 cases hw:w.2.2 with
 | true=>rfl
 | false=>rw[hw] at h;simp[a] at h
theorem Cs {w:aq} {x:al} (h:fI w x=0) (l:x.1≠5) (d:x.1≠6) (m:x.1≠7):∃ a,qD w a/\dj w.1 (aP x)=0/\qD (fp w x) (a++[aP x])/\(fp w x).1=ez w.1 (aP x):=by
 obtain⟨z,A,n⟩:=jV h
 obtain⟨-,B,-,C⟩:=iJ A
 obtain⟨f,o,b⟩:=C l d
 have b:=b m
 obtain⟨a,p⟩:=q9 z (BD B d)
 obtain⟨rfl,g,q,i,j⟩:=id p
 simp only at f o b n |-
 obtain⟨r,s,t,u⟩:=vJ g q i o
 rw[t] at b
 obtain⟨k,D⟩:=zS g q r s u
 rw[b] at k
 have v:a.length+1<=40:=by
  apply Classical.byContradiction
  intro e
  rw[if_neg e] at k
  cases k
 have c:=lq v j f
 have y:fp ((aK a).1,(aM a,[]),true) x=(ez (aK a).1 (aP x),(aM (a++[aP x]),[]),true):=by
  rw[n]
  unfold fH
  rw[if_neg l,if_neg d,if_neg m]
  simp only
  rw[t,D v]
 refine⟨a,p,f,⟨by rw[y,c],tT g r s,by simp;omega,by rw[gx,List.length_append];exact u,by rw[c]⟩,by rw[y]⟩
theorem uF {w:aq} {x:al} (h:fI w x=0) (z:x.1=7):∃ a,qD w a/\dj w.1 (aP x)=0/\(fp w x).1=aA/\(fp w x).2.2=false/\az (fp w x).2.1=0/\
  (cR (fp w x).2.1=a/\fX (fp w x).2.1=(aM a,[])\/a.length+1<=40/\cR (fp w x).2.1=a++[aP x]/\fX (fp w x).2.1=(aM (a++[aP x]),[])/\bF (aP x)=0/\(aG (aP x)).length<=60000/\(aM a).length+(aG (aP x)++[10]).length<=60000/\eH w.2.1 (aP x)=0):=by
 obtain⟨A,B,r⟩:=jV h
 obtain⟨-,C,-,g⟩:=iJ B
 obtain⟨s,i,-⟩:=g (by omega) (by omega)
 obtain⟨a,u⟩:=q9 A (BD C (by omega))
 obtain⟨rfl,c,d,j,D⟩:=id u
 simp only at s i r |-
 obtain⟨f,v,E,F⟩:=vJ c d j i
 obtain⟨m,G⟩:∃ m,m=jL x.2.2.1 (aG (aP x)++[10]).length:=⟨_,rfl⟩
 have H:fp ((aK a).1,(aM a,[]),true) x=(aA,(aM a,(aG (aP x)++[10]).take m),false):=by
  rw[r]
  unfold fH
  rw[if_neg (by omega),if_neg (by omega),if_pos z]
  simp only
  rw[E,G]
 rw[H]
 have b:(aM a).length+((aG (aP x)++[10]).take m).length<=60000:=by
  have:((aG (aP x)++[10]).take m).length<=(aG (aP x)++[10]).length:=by rw[List.length_take];omega
  omega
 have l:=eQ (t:=(aG (aP x)++[10]).take m) c d b
 refine⟨a,u,s,rfl,rfl,l,?_⟩
 have I:cR (aM a,(aG (aP x)++[10]).take m)=a++(aI (40-a.length) ((aG (aP x)++[10]).take m)).1:=by
  unfold cR ph km
  rw[if_pos l]
  simp only
  rw[mu c d]
 have J:fX (aM a,(aG (aP x)++[10]).take m)=(aM a++((aG (aP x)++[10]).take m).take (aI (40-a.length) ((aG (aP x)++[10]).take m)).2.1,[]):=by
  unfold fX px km
  rw[if_pos l]
  simp only
  rw[mu c d]
 rw[I,J]
 by_cases n:m<=(aG (aP x)).length
 ·
  left
  have o:(aG (aP x)++[10]).take m=(aG (aP x)).take m:=List.take_append_of_le_length n
  rw[o]
  have p:(10:UInt8) ∉ (aG (aP x)).take m:=λe=>uY f (List.mem_of_mem_take e)
  by_cases y:(aG (aP x)).take m=[]
  ·rw[y,i9]
   simp
  ·rw[lC _ _ p y]
   simp
 ·have o:(aG (aP x)++[10]).take m=aG (aP x)++10 :: []:=by rw[List.take_of_length_le (by simp;omega)]
  rw[o,ip _ _ _ (uY f),rq f v,if_pos rfl]
  by_cases q:a.length+1<=40
  ·right
   obtain⟨k,g⟩:∃ k,40-a.length=k+1:=⟨39-a.length,by omega⟩
   rw[g]
   simp only
   rw[i9]
   refine⟨q,by simp,?_,f,v,F,i⟩
   rw[gx,List.take_of_length_le (by simp)]
  ·left
   rw[show 40-a.length=0 by omega]
   simp
theorem sQ {w:aq} {x:al} (h:fI w x=0) (c:x.1=5):∃ a,qD w a/\fp w x=(aA,(aM a,[]),false):=by
 obtain⟨d,e,f⟩:=jV h
 obtain⟨-,g,-,-⟩:=iJ e
 obtain⟨a,b⟩:=q9 d (BD g (by omega))
 refine⟨a,b,?_⟩
 obtain⟨rfl,-⟩:=id b
 rw[f]
 unfold fH
 rw[if_pos c]
theorem zO {w:aq} {x:al} (h:fI w x=0) (c:x.1=6):w.2.2=false/\qD (fp w x) (cR w.2.1):=by
 obtain⟨d,i,j⟩:=jV h
 obtain⟨-,g,k,-⟩:=iJ i
 have e:=k c
 have l:w.2.2=false:=by
  cases hv:w.2.2 with
  | false=>rfl
  | true=>rw[hv] at g;simp[c] at g
 have a:az w.2.1=0:=by
  unfold cg at d
  by_cases a:az w.2.1=0
  ·exact a
  ·rw[if_neg a] at d
   exact d
 obtain⟨p,b,m,n,o,f⟩:=Bo a
 refine⟨l,?_,by rw[b];exact n,by rw[b];exact o,by rw[b];exact f,e⟩
 rw[j]
 unfold fH
 rw[if_neg (by omega),if_pos c,m,b]
theorem mj {w:aq} {x:al} (h:fI w x=0):cg (fp w x)=0:=by
 by_cases f:x.1=5
 ·obtain⟨g,⟨-,m,n,d,-⟩,e⟩:=sQ h f
  rw[e]
  exact nq _ (eQ m n (by simpa using d))
 ·by_cases d:x.1=6
  ·exact (zO h d).2.right
  ·by_cases i:x.1=7
   ·obtain⟨g,-,-,j,k,l,-⟩:=uF h i
    generalize fp w x=y at*
    obtain⟨a,b,c⟩:=y
    simp only at j k l
    subst j k
    exact nq _ l
   ·obtain⟨g,-,-,o,-⟩:=Cs h f d i
    exact o.right
def fz:al:=(5,0,0,[],0)
def fB:al:=(6,0,0,[],0)
theorem uE {a:List al} {d:bA} (f:az d=0) (c:cR d=a) (g:fX d=(aM a,[])) (b:(aK a).2=0):fI (aA,d,false) fB=0/\fp (aA,d,false) fB=((aK a).1,(aM a,[]),true):=by
 have h:=nq d f
 have i:bD (aA,d,false) fB=0:=by
  unfold bD fB
  simp only
  rw[if_neg (by omega),if_neg (by simp),if_neg (by omega),if_pos trivial,c]
  exact b
 have e:fI (aA,d,false) fB=0:=by unfold fI;rw[if_pos h];exact i
 refine⟨e,?_⟩
 rw[(jV e).2.2]
 unfold fH fB
 simp only
 rw[if_neg (by omega),if_pos trivial,c,g]
theorem vp {w:aq} (h:cg w=0) (d:w.2.2=true):fI w fz=0/\(fp w fz).2.2=false/\fI (fp w fz) fB=0/\fp (fp w fz) fB=w:=by
 obtain⟨o,p⟩:=q9 h d
 have k:bD w fz=0:=by
  unfold bD fz
  simp only
  rw[if_neg (by omega),if_neg (by rw[d];simp),if_pos trivial]
 have f:fI w fz=0:=by unfold fI;rw[if_pos h];exact k
 obtain⟨l,b,e⟩:=sQ f rfl
 obtain⟨rfl,g,i,j,c⟩:=b
 obtain⟨m,n⟩:=kx g i j
 have a:=uE (eQ (t:=[]) g i (by simpa using j)) m n c
 rw[e]
 exact⟨f,rfl,a.1,a.2⟩
theorem zi {w:aq} {c n:Int} {p:ap} (h:fI w (7,c,n,p)=0):fI (fp w (7,c,n,p)) fB=0/\(fp (fp w (7,c,n,p)) fB=w\/fI w (2,c,0,p)=0/\fp (fp w (7,c,n,p)) fB=fp w (2,c,0,p)):=by
 obtain⟨j,s,k,t,u,l,a⟩:=uF h rfl
 have f:aP (7,c,n,p)=(2,c,0,p):=by unfold aP;simp
 have b:aP (2,c,0,p)=(2,c,0,p):=by unfold aP;simp
 rw[f] at k a
 generalize fp w (7,c,n,p)=y at*
 obtain⟨J,d,K⟩:=y
 simp only at t u l a
 subst t u
 obtain⟨rfl,v,x,D,g⟩:=id s
 simp only at k a
 rcases a with ⟨m,o⟩ | ⟨e,m,o,E,F,G,z⟩
 ·obtain⟨q,r⟩:=uE l m o g
  exact⟨q,.inl r⟩
 ·have i:=lq e g k
  obtain⟨q,r⟩:=uE l m o (by rw[i])
  obtain⟨-,-,A,-⟩:=vJ v x D z
  obtain⟨B,H⟩:=zS v x E F G
  rw[if_pos e] at B
  have I:bD ((aK j).1,(aM j,[]),true) (2,c,0,p)=0:=by
   unfold bD
   rw[b]
   simp only
   rw[if_neg (by omega),if_neg (by simp),if_neg (by omega),if_neg (by omega),if_pos k,if_pos z,if_neg (by omega),A,B]
  have C:fI ((aK j).1,(aM j,[]),true) (2,c,0,p)=0:=by unfold fI;rw[if_pos s.right];exact I
  refine⟨q,.inr ⟨C,?_⟩⟩
  rw[r,(jV C).2.2]
  unfold fH
  rw[b]
  simp only
  rw[if_neg (by omega),if_neg (by omega),if_neg (by omega),A,H e,i]
def pH (s:aq × List Int) (x:al):aq × List Int:=(if fI s.1 x=0 then fp s.1 x else s.1,s.2++[fI s.1 x])
def dY (w:aq) (l:List al):aq × List Int:=l.foldl pH (w,[])
def gC (w:aq) (l:List al):Int:=if cg w=0 then (if 60<l.length then 2 else 0) else cg w
def eT (w:aq) (l:List al):aq:=if gC w l=0 then (dY w l).1 else fF
def im (w:aq) (l:List al):List Int:=if gC w l=0 then (dY w l).2 else []
theorem sJ:∀ (l:List al) (w:aq) (a:List Int),l.foldl pH (w,a)=((dY w l).1,a++(dY w l).2)
 | [],w,a=>by simp[dY]
 | x :: l,w,a=>by
  show l.foldl pH (pH (w,a) x)=_
  have b:pH (w,a) x=((if fI w x=0 then fp w x else w),a++[fI w x]):=rfl
  have c:dY w (x :: l)=l.foldl pH ((if fI w x=0 then fp w x else w),[]++[fI w x]):=rfl
  rw[b,c,sJ l _ (a++[fI w x]),sJ l _ ([]++[fI w x])]
  simp
theorem wW (w:aq) (a b:List al):dY w (a++b)=((dY (dY w a).1 b).1,(dY w a).2++(dY (dY w a).1 b).2):=by
 unfold dY
 rw[List.foldl_append]
 exact sJ b _ _
theorem Aa (w:aq) (a:List al) (x:al):dY w (a++[x])=pH (dY w a) x:=by
 unfold dY
 rw[List.foldl_append]
 rfl
theorem mt {w:aq} (h:cg w=0):∀ (l:List al),cg (dY w l).1=0:=by
 have a:∀ (l:List al) (s:aq × List Int),cg s.1=0->cg (l.foldl pH s).1=0:=by
  intro l
  induction l with
  | nil=>exact λs h=>h
  | cons x l b=>
   intro s c
   refine b _ ?_
   show cg (if fI s.1 x=0 then fp s.1 x else s.1)=0
   split
   ·rename_i d
    exact mj d
   ·exact c
 exact λl=>a l (w,[]) h
theorem wK {w:aq} {l:List al} (h:gC w l=0) (k:Nat):gC w (l.take k)=0/\gC (eT w (l.take k)) (l.drop k)=0/\eT (eT w (l.take k)) (l.drop k)=eT w l/\im w l=im w (l.take k)++im (eT w (l.take k)) (l.drop k):=by
 have b:cg w=0:=by
  unfold gC at h
  by_cases e:cg w=0
  ·exact e
  ·rw[if_neg e] at h
   exact h
 have i:¬60<l.length:=by
  unfold gC at h
  rw[if_pos b] at h
  intro e
  rw[if_pos e] at h
  cases h
 have c:gC w (l.take k)=0:=by unfold gC;rw[if_pos b,if_neg (by rw[List.length_take];omega)]
 have d:eT w (l.take k)=(dY w (l.take k)).1:=by unfold eT;rw[if_pos c]
 have a:gC (eT w (l.take k)) (l.drop k)=0:=by
  rw[d]
  unfold gC
  rw[if_pos (mt b _),if_neg (by rw[List.length_drop];omega)]
 have f:=wW w (l.take k) (l.drop k)
 rw[List.take_append_drop] at f
 refine⟨c,a,?_,?_⟩
 ·have g:eT (eT w (l.take k)) (l.drop k)=(dY (eT w (l.take k)) (l.drop k)).1:=by unfold eT at a |-;rw[if_pos a]
  rw[g,d]
  unfold eT
  rw[if_pos h,f]
 ·have g:im (eT w (l.take k)) (l.drop k)=(dY (eT w (l.take k)) (l.drop k)).2:=by unfold im;rw[if_pos a]
  rw[g,d]
  unfold im
  rw[if_pos h,if_pos c,f]
def ge (w:aq):List ay:=(aK (cR w.2.1)).1
def kb (w:aq) (c:Int) (x:Nat->Int):Int:=if cg w=0 then (if c<0\/3<c then 5 else if (aQ w.1 c).1=true then ik (aQ w.1 c).2.1 x else 6) else cg w
def gR (w:aq) (c:Int) (x:Nat->Int):Int:=if kb w c x=0 then j8 (aQ w.1 c).2.1 x else 0
def gT (k:Nat) (x:Nat->Int) (w:aq) (aF:Int):Prop:=cg w=0/\(aK (cR w.2.1)).2=0/\(aF = -1\/0<=aF/\(aQ (ge w) k).1=true/\j8 (aQ (ge w) k).2.1 x<=aF)
theorem qD.stored {w:aq} {a:List al} (h:qD w a):ge w=w.1/\cR w.2.1=a/\(aK a).2=0/\p9 w.1:=by
 obtain⟨rfl,c,d,f,b⟩:=h
 have e:=(kx c d f).1
 exact⟨by unfold ge;simp only;rw[e],e,b,kJ b⟩
theorem Bu (k:Nat) (x:Nat->Int):gT k x iq (-1)/\qD iq []:=by
 have a:qD iq []:=⟨rfl,λr h=>(by cases h),Nat.zero_le _,by simp[aM],rfl⟩
 refine⟨⟨a.right,?_,.inl rfl⟩,a⟩
 rw[a.stored.2.1]
 exact a.stored.2.2.1
theorem qV {l:List ay} {r:al} (m:p9 l) (h:dj l r=0) {k:Nat} (v:k<4) {x:Nat->Int} (n:dw x=0) (o:¬(r.1=4/\r.2.1=(k:Int))) (c:(aQ l k).1=true):(aQ (ez l r) k).1=true/\j8 (aQ (ez l r) k).2.1 x<=j8 (aQ l k).2.1 x:=by
 obtain⟨w,p,f,d⟩:=mz h
 by_cases a:(k:Int)=r.2.1
 ·have b:=Cc h
  have g:aQ (ez l r) k=(f7 l r).1:=by
   unfold aQ
   rw[a,List.getD_eq_getElem?_getD,b]
   rfl
  rw[g]
  rw[a] at c
  have q:decide (r.1=1\/r.1=3)=false:=by
   rw[c] at f
   cases hb':decide (r.1=1\/r.1=3) with
   | true=>rw[hb'] at f;exact absurd rfl f
   | false=>rfl
  have s:¬(r.1=1\/r.1=3):=of_decide_eq_false q
  have t:=(gY p).1
  have u:r.1=2:=by
   have:¬(r.1=4):=λe=>o ⟨e,a.symm⟩
   omega
  have kf:(f7 l r).1.1=true:=by
   unfold f7 at d |-
   rw[if_neg (by omega),if_neg (by omega),if_pos u] at d |-
   by_cases i:dm (aQ l r.2.1).2.1 (aQ l r.2.1).2.2 r.2.2.2=0
   ·rw[if_pos i]
   ·rw[if_neg i] at d
    exact absurd d i
  have:=zD m h c kf n
  rw[a]
  exact⟨kf,this.2.2.1⟩
 ·have j:=Ap h a
  have g:aQ (ez l r) k=aQ l k:=by
   unfold aQ
   rw[Int.toNat_natCast,List.getD_eq_getElem?_getD,List.getD_eq_getElem?_getD,j]
  rw[g]
  exact⟨c,Int.le_refl _⟩
theorem zc {k:Nat} (I:k<4) {x:Nat->Int} (J:dw x=0) {w:aq} {aF:Int} (O:gT k x w aF) {y:al} (h:fI w y=0):gT k x (fp w y) (if y.1=4/\y.2.1=(k:Int) then -1 else aF):=by
 obtain⟨T,z,a⟩:=O
 have P:(aP y).2.1=y.2.1:=by
  unfold aP
  by_cases g:y.1=3
  ·rw[if_pos g]
  ·rw[if_neg g]
   by_cases i:y.1=4
   ·rw[if_pos i]
   ·rw[if_neg i]
    by_cases j:y.1=1
    ·rw[if_pos j]
    ·rw[if_neg j]
 refine⟨mj h,?_⟩
 by_cases K:y.1=5
 ·obtain⟨t,c,e⟩:=sQ h K
  obtain⟨rfl,-⟩:=id c
  rw[e,if_neg (by omega)]
  exact⟨z,a⟩
 ·by_cases L:y.1=6
  ·obtain⟨-,c⟩:=zO h L
   obtain⟨u,l,m,-⟩:=c.stored
   rw[if_neg (by omega),l]
   refine⟨m,?_⟩
   have:ge (fp w y)=ge w:=by unfold ge;rw[l]
   rw[this]
   exact a
  ·by_cases M:y.1=7
   ·obtain⟨t,c,n,-,-,-,d⟩:=uF h M
    obtain⟨u,l,m,v⟩:=c.stored
    rw[if_neg (by omega)]
    rcases d with ⟨o,-⟩ | ⟨A,o,-⟩
    ·have:ge (fp w y)=ge w:=by unfold ge;rw[o,l]
     rw[o,this]
     exact⟨m,a⟩
    ·have p:w.1=(aK t).1:=by obtain⟨rfl,-⟩:=id c;rfl
     rw[p] at n v
     have q:=lq A m n
     have B:ge (fp w y)=ez (aK t).1 (aP y):=by unfold ge;rw[o,q]
     rw[o,q]
     refine⟨rfl,?_⟩
     rcases a with a | ⟨C,r,s⟩
     ·exact .inl a
     ·rw[u,p] at r s
      have D:¬((aP y).1=4/\(aP y).2.1=(k:Int)):=by
       have:(aP y).1=2:=by unfold aP;rw[if_neg (by omega),if_neg (by omega),if_neg (by omega)]
       omega
      obtain⟨E,F⟩:=qV v n I J D r
      rw[B]
      exact .inr ⟨C,E,Int.le_trans F s⟩
   ·obtain⟨t,c,n,G,e⟩:=Cs h K L M
    obtain⟨u,l,m,v⟩:=c.stored
    obtain⟨Q,R,S,-⟩:=G.stored
    rw[R]
    refine⟨S,?_⟩
    by_cases f:y.1=4/\y.2.1=(k:Int)
    ·rw[if_pos f]
     exact .inl rfl
    ·rw[if_neg f,Q,e]
     rcases a with a | ⟨C,r,s⟩
     ·exact .inl a
     ·rw[u] at r s
      have H:¬((aP y).1=4/\(aP y).2.1=(k:Int)):=by
       rw[P]
       intro N
       refine f ⟨?_,N.2⟩
       have b:=N.1
       unfold aP at b
       by_cases g:y.1=3
       ·rw[if_pos g] at b;simp at b
       ·rw[if_neg g] at b
        by_cases i:y.1=4
        ·exact i
        ·rw[if_neg i] at b
         by_cases j:y.1=1
         ·rw[if_pos j] at b;simp at b
         ·rw[if_neg j] at b;simp at b
      obtain⟨E,F⟩:=qV v n I J H r
      exact .inr ⟨C,E,Int.le_trans F s⟩
theorem pD {k:Nat} (r:k<4) {x:Nat->Int} (i:dw x=0) {w:aq} {aF:Int} (m:gT k x w aF) (n:w.2.2=true):(kb w k x=6/\aF = -1)\/(kb w k x=0/\¬(0<=aF/\aF<gR w k x)/\gT k x w (gR w k x)):=by
 obtain⟨d,e,a⟩:=m
 obtain⟨s,o⟩:=q9 d n
 obtain⟨f,t,u,j⟩:=o.stored
 rw[f] at a
 have b:aQ w.1 (k:Int)∈w.1:=sA j.1 (by omega)
 cases ho:(aQ w.1 (k:Int)).1 with
 | false=>
  left
  refine⟨?_,?_⟩
  ·unfold kb
   rw[if_pos d,if_neg (by omega),if_neg (by rw[ho];simp)]
  ·rcases a with a | ⟨-,g,-⟩
   ·exact a
   ·rw[ho] at g
    cases g
 | true=>
  right
  have c:=j.2 _ b
  obtain⟨p,q,-⟩:=Dv c ho i
  have l:kb w k x=0:=by
   unfold kb
   rw[if_pos d,if_neg (by omega),if_pos ho]
   exact p
  have h:gR w k x=j8 (aQ w.1 (k:Int)).2.1 x:=by unfold gR;rw[if_pos l]
  refine⟨l,?_,d,e,.inr ⟨?_,?_,?_⟩⟩
  ·rw[h]
   rintro⟨v,g⟩
   rcases a with a | ⟨-,-,y⟩
   ·omega
   ·omega
  ·rw[h,q]
   exact (A2 (kO c.1 ho).2.1 i).1
  ·rw[f]
   exact ho
  ·rw[f,h]
   exact Int.le_refl _
end Go.Proofs.YtnpdhopjpjickaaGreatDoor
end
section
set_option linter.all false
set_option maxRecDepth 100000
namespace Go.Proofs.YtnpdhopjpjickaaGreatDoor
open Go.RowKit Go.Maps
set_option maxHeartbeats 1000000 in
theorem ou (B:Nat) (cv L:Value) (cs j:List Int) (w:World) (T:cw B w cv cs) (G:cw B w L j) (hB:B<=w.heap.size):
  Calls Tryz.prog 22 #[cv,L] w λe U=>e=.returned (.bool (decide (cs=j)))/\Below w.heap.size w U:=by
 obtain⟨a,V,rfl,W,X,z⟩:=T
 obtain⟨a2,M,rfl,A,N,C⟩:=G
 have D:=hid z
 have E:=hid C
 clear z C
 by_cases l:cs.length=j.length
 ·generalize hn:cs.length=n at*
  have O:j.length=n:=l.symm
  clear l
  rw[O] at A
  simp only[O]
  have Y:n<=9223372036854775807:=by have:=ag;omega
  go_enter Tryz.func22,Tryz.ntmps22
  go_wp2
  go_loopw [13] (λi wr=>∃ k:Nat,k<=n/\i=.int .i64 k/\Hid (∀ i,i<k->cs[i]?=j[i]?)/\Below w.heap.size w wr) (λi _=>n-(intOf i).toNat)
  case atStart=>exact⟨0,by omega,rfl,λi h=>absurd h (by omega),Below.refl _ _⟩
  case round=>
   obtain⟨k,hk,rfl,H,f⟩:=hrel
   have i0:(0:Int)<=(k:Int):=by omega
   by_cases Z:k<n
   ·have i1:(k:Int)<(n:Int):=by omega
    obtain⟨c,t⟩:∃ c,cs[k]?=some c:=⟨cs[k]'(by omega),by simp⟩
    obtain⟨d,u⟩:∃ d,j[k]?=some d:=⟨j[k]'(by omega),by simp⟩
    obtain⟨b,o,rfl,a0,F⟩:=D.out k c t
    obtain⟨I,P,rfl,Q,q⟩:=E.out k d u
    have r:=hid t
    have s:=hid u
    clear t u
    have c0:=(f.cell (p:=⟨b,o+k,none⟩) (by show b<_;omega)).trans F
    have d0:=(f.cell (p:=⟨I,P+k,none⟩) (by show I<_;omega)).trans q
    clear F q
    go_wp2
    have a4:=f.size
    have l:=aw.ne wr
    have a5:∀ x:aw wr,x.1.cell? ⟨b,o+k,none⟩=some (.int .i64 c):=λx=>x.cell c0 (by omega)
    have a6:∀ x:aw wr,x.1.cell? ⟨I,P+k,none⟩=some (.int .i64 d):=λx=>x.cell d0 (by omega)
    by_cases g:c=d
    ·have v:=hid g
     have G:(c != d)=false:=by simp[g]
     clear g
     refine bn (by kernel_rfl) (by kernel_rfl) ?_
     repeat (go_big_quiet_step (fail))
     refine wpQuiet_nil ?_
     rintro wx ⟨⟨_,J⟩,rfl⟩
     have y:=Below.thenOf f J f.size
     go_wp2
     refine⟨⟨k+1,by omega,by go_num,λi R=>?_,y⟩,by simp[intOf];omega⟩
     by_cases K:i=k
     ·subst K;rw[r.out,s.out,v.out]
     ·exact H.out i (by omega)
    ·have v:=hid g
     have G:(c != d)=true:=by simpa using g
     clear g
     refine bn (by kernel_rfl) (by kernel_rfl) ?_
     repeat (go_big_quiet_step (fail))
     refine wpQuiet_nil ?_
     rintro wx ⟨⟨_,J⟩,rfl⟩
     have y:=Below.thenOf f J f.size
     go_wp2
     go_ret
     refine⟨?_,y⟩
     have:cs≠j:=by
      intro h
      have S:=r.out
      rw[h,s.out] at S
      exact v.out (Option.some.inj S).symm
     simp[this]
   ·go_wp2
    go_ret
    refine⟨?_,f⟩
    have:cs=j:=by
     refine List.ext_getElem? λi=>?_
     by_cases R:i<k
     ·exact H.out i R
     ·rw[List.getElem?_eq_none (by omega),List.getElem?_eq_none (by omega)]
    simp[this]
 ·have a8:((cs.length:Int) != (j.length:Int))=true:=by simp;omega
  have hf:Hid (decide (cs=j)=false):=by unfold Hid;simp;intro h;rw[h] at l;exact l rfl
  generalize cs.length=n at*
  generalize j.length=m at*
  go_enter Tryz.func22,Tryz.ntmps22
  go_wp2
  go_ret
  exact⟨by rw[hf.out];rfl,Below.refl _ _⟩
theorem vO:∃ i,Tryz.prog.info? 35=some i/\i.zero=some (.int .i64 0)/\i.size=1/\i.bytes=8:=fD (by kernel_rfl)
def cE (l:List Int):List Value:=l.map λb=>.int .i64 b
theorem lO (l m:List Int):cE (l++m)=cE l++cE m:=by unfold cE;exact List.map_append
theorem iZ (l:List Int):(cE l).length=l.length*1:=by unfold cE;simp
theorem wO (l:List Int):∀ u∈cE l,u.oneCell'=true:=by
 intro u a
 obtain⟨x,_,rfl⟩:=List.mem_map.1 a
 rfl
theorem vx {w:World} {b:Nat} (l:List Int) (o:Nat) (h:∀ (i:Nat) c,l[i]?=some c->w.cell? ⟨b,o+i,none⟩=some (.int .i64 c)):∀ j u,(cE l)[j]?=some u->w.cell? ⟨b,o+j,none⟩=some u:=by
 intro j u a
 unfold cE at a
 rw[List.getElem?_map] at a
 cases hc:l[j]? with
 | none=>rw[hc] at a;cases a
 | some c=>
  rw[hc] at a
  cases a
  exact h j c hc
theorem xJ {L:Nat} {w:World} {v:Value} {l:List Int} (h:w.ownsRow L 35 1 v l.length (cE l)):cw w.heap.size w v l:=by
 obtain⟨a,c,rfl,f,j,k⟩:=ax h
 refine⟨a,c,rfl,f,j,λi b e=>?_⟩
 have n:i<l.length:=(List.getElem?_eq_some_iff.1 e).1
 obtain⟨g,rfl,m,d⟩:=k (by omega)
 refine⟨g,0,rfl,d,?_⟩
 rw[Nat.zero_add]
 exact aL h i _ (by unfold cE;rw[List.getElem?_map,e];rfl)
theorem cw.full {B:Nat} {w:World} {v:Value} {l:List Int} (h:cw B w v l):∃ a b,v=.slice a l.length b/\l.length<=b/\b<=maxLen:=by
 obtain⟨a,b,c,d,e,_⟩:=h
 exact⟨a,b,c,d,e⟩
theorem kY (B d:Nat) (J:TypeId) (v sv:Value) (n:Nat) (xs:List Value) (m:List Int) (W:World) (f:W.ownsRow d 35 1 v n xs) (M:cw B W sv m) (N:(n+m.length)*8<=140737488355328) (p:d<=W.heap.size):
  ∃ z w,(Builtin.append_ #[53,53] J #[v,sv]).run Tryz.prog W=.ok z w/\w.ownsRow d 35 1 z (n+m.length) (xs++cE m)/\Below d W w:=by
 obtain⟨x,q,C,D,E⟩:=vO
 obtain⟨a,y,rfl,O,Q,s⟩:=M
 cases a with
 | none=>
  have R:m=[]:=by
   cases m with
   | nil=>rfl
   | cons r l=>obtain⟨b,o,e,_⟩:=s 0 r rfl;cases e
  subst R
  refine⟨v,W,?_,by simpa [cE] using f,Below.refl _ _⟩
  have F:v=.slice none 0 0\/∃ g c,v=.slice (some g) n c/\n<=c:=by
   rcases f.2 with ⟨h,_⟩ | ⟨g,c,G,h,_,_,S,_⟩
   ·exact .inl h
   ·exact .inr ⟨_,c,h,S⟩
  have K:=run_firstCells_none (P:=Tryz.prog) W x.size 0 0 y
  rcases F with rfl | ⟨g,c,rfl,H⟩
  ·simp[Builtin.append_,run_underlying Tryz.underlying53,sizeOf,typeInfo,q,Builtin.lenOf,K]
  ·simp[Builtin.append_,run_underlying Tryz.underlying53,sizeOf,typeInfo,q,Builtin.lenOf,K,H,storeCells]
 | some L=>
  have t:∀ j u,(cE m)[j]?=some u->W.cell? (L.add j)=some u:=by
   cases m with
   | nil=>intro j u I;simp[cE] at I
   | cons r l=>
    obtain⟨b,o,e,_,_⟩:=s 0 r rfl
    cases e
    intro j u I
    rw[dL]
    refine vx (r :: l) o (λi c F=>?_) j u I
    obtain⟨X,Y,e,_,k⟩:=s i c F
    cases e
    exact k
  obtain⟨z,w,T,U,V,Z⟩:=run_append_own (P:=Tryz.prog) W d 53 J 35 x _ 1 8 Tryz.underlying53 q C D E rfl (by decide) v n xs f L m.length y (cE m) (iZ m) t (wO m) (by rw[ag];omega) N p
  refine⟨z,w,T,U,(Below.refl _ _).grown V p λk A=>?_⟩
  rcases f.2 with ⟨h,_⟩ | ⟨g,c,G,h,hg,_⟩
  ·rw[h] at A;simp[Value.ownBlock] at A
  ·rw[h] at A;simp[Value.ownBlock] at A;omega
set_option maxHeartbeats 4000000 in
theorem AC (n:Nat) (w:World) (u:n*8<=140737488355328):
  Calls Tryz.prog 49 #[.slice none 0 0,.int .i64 n] w λe q=>∃ v,e=.returned v/\q.ownsRow w.heap.size 35 1 v 0 []/\Below w.heap.size w q:=by
 have j:=ag
 by_cases r:n=0
 ·subst r
  go_enter Tryz.func49,Tryz.ntmps49
  go_wp2
  go_ret
  exact⟨_,rfl,⟨rfl,.inl ⟨rfl,rfl⟩⟩,Below.refl _ _⟩
 ·obtain⟨b,k,c,s,d⟩:=vO
  have x:¬((n:Int)<0):=by omega
  have y:(n:Int)>0:=by omega
  obtain⟨G,i⟩:∃ G,G=grownCap w n 0 35:=⟨_,rfl⟩
  have t:n<=G:=by rw[i];exact grownCap_ge w _ _ _
  have a:G<=maxLen:=by rw[i];exact grownCap_le_maxLen w n 0 _ (by omega)
  obtain⟨z,l⟩:∃ z:Value,z=.int .i64 0:=⟨_,rfl⟩
  have m:z.cells.size=1:=by rw[l];rfl
  rw[<-l] at c
  have o:∀ p,(Builtin.append_ #[53,3] p #[.slice none 0 0,.int .i64 n]).run Tryz.prog w=
    .ok (.slice (some ⟨w.heap.size,0,none⟩) n G) (w.drew.alloc (.cells ((Builtin.zeroCells z.cells n)++Builtin.zeroCells z.cells (G-n)) 35)):=λp=>by
   have h:=Lib.run_append_grow_zeros w 53 3 p 35 b z .i64 .i64 Tryz.underlying53 Tryz.underlying3 k c none 0 0 [] (run_firstCells_none w.drew b.size 0 0 0) n (by omega) (by omega) (by omega) (by omega)
    (by rw[d];omega)
    (by rw[Nat.zero_add];exact growslice_fits (by omega) (by rw[d];omega))
   simpa [<-i] using h
  have f:Hid ((w.drew.alloc (.cells ((Builtin.zeroCells z.cells n)++Builtin.zeroCells z.cells (G-n)) 35)).ownsRow w.heap.size 35 1 (.slice (some ⟨w.heap.size,0,none⟩) 0 G) 0 []):=by
   refine⟨rfl,.inr ⟨w.heap.size,G,_,rfl,Nat.le_refl _,(MapKept.heap_alloc w.drew _).1,Nat.zero_le _,a,?_,by simp⟩⟩
   rw[Array.size_append,size_zeroCells,size_zeroCells,m,<-Nat.add_mul]
   congr 1
   omega
  have g:Hid (Below w.heap.size w (w.drew.alloc (.cells ((Builtin.zeroCells z.cells n)++Builtin.zeroCells z.cells (G-n)) 35))):=(Below.refl _ _).drew.alloc (Nat.le_refl _) _
  clear i l
  rw[j] at a
  generalize (Builtin.zeroCells z.cells n)++Builtin.zeroCells z.cells (G-n)=A at*
  go_enter Tryz.func49,Tryz.ntmps49
  go_wp2_with (at_builtin;refine Lib.wpList_append_run _ rfl _ _ _ _ rfl _ _ rfl rfl _ _ (o _) ?_)
  go_ret
  exact⟨_,rfl,f.out,g.out⟩
set_option maxHeartbeats 4000000 in
theorem wA (B:Nat) (O P:Value) (b c:List Int) (bs:Nat) (w:World) (H:cw B w O b) (q:cw B w P c) (Q:B<=w.heap.size) (u:bs<w.heap.size) (x:w.cell? ⟨bs,0,none⟩=some O) (y:w.cell? ⟨bs,1,none⟩=some P) (U:(b.length+c.length)*8<=140737488355328):
  Calls Tryz.prog 24 #[.slice (some ⟨bs,0,none⟩) 2 2] w λe j=>∃ v,e=.returned v/\j.ownsRow w.heap.size 35 1 v (b++c).length (cE (b++c))/\Below w.heap.size w j:=by
 have V:=hid H
 have W:=hid q
 obtain⟨X,z,I,R,_⟩:=H.full
 obtain⟨Y,A,J,S,_⟩:=q.full
 have Z:=hid I
 have E1:=hid J
 rw[I] at x
 rw[J] at y
 have HC:Hid (∀ j,Below w.heap.size w j->j.cell? ⟨bs,0,none⟩=some (.slice X b.length z)/\j.cell? ⟨bs,1,none⟩=some (.slice Y c.length A)):=λj h=>⟨(h.cell (p:=⟨bs,0,none⟩) u).trans x,(h.cell (p:=⟨bs,1,none⟩) u).trans y⟩
 clear I J H q
 generalize C:b.length=n at*
 generalize D:c.length=o at*
 have E:=hid C
 have K:=hid D
 clear C D
 go_enter Tryz.func24,Tryz.ntmps24
 go_wp2
 go_loop [3,11] (λsz i=>∃ k:Nat,k<=2/\i=.int .i64 k/\sz=.int .i64 (if k=0 then 0 else if k=1 then (n:Int) else ((n:Int)+o))) (λ_ i=>2-(intOf i).toNat)
 case atStart=>exact⟨0,by omega,rfl,rfl⟩
 case round=>
  obtain⟨k,hk,rfl,rfl⟩:=hrel
  have r:k=0\/k=1\/k=2:=by omega
  rcases r with rfl | rfl | rfl
  ·go_wp2
   exact⟨⟨1,by omega,rfl,by simp⟩,by simp[intOf]⟩
  ·have T:¬((n:Int)+(o:Int)<0):=by omega
   have a6:wrap64 ((n:Int)+(o:Int))=(n:Int)+o:=by unfold wrap64;omega
   go_wp2
   exact⟨⟨2,by omega,rfl,by simp⟩,by simp[intOf]⟩
  ·have hG:Hid (∀ j,Calls Tryz.prog 49 #[.slice none 0 0,.int .i64 ((n:Int)+o)] j λe F=>∃ v,e=.returned v/\F.ownsRow j.heap.size 35 1 v 0 []/\Below j.heap.size j F):=λj=>by
    have:=AC (n+o) j U
    rw[show ((n+o:Nat):Int)=(n:Int)+o by omega] at this
    exact this
   go_wp2_with fail
   go_at_call 49
   refine Calls.mono (hG.out _) ?_
   rintro e w1 ⟨v,rfl,m,L⟩
   have HO:=hid m
   clear m
   go_wp2_with fail
   go_loopw [6,27] (λnv i wr=>∃ (k:Nat),k<=2/\i=.int .i64 k/\Hid (wr.ownsRow w.heap.size 35 1 nv (([b,c].take k).flatten).length (cE ([b,c].take k).flatten))/\Below w.heap.size w wr) (λ_ i _=>2-(intOf i).toNat)
   case atStart=>exact⟨0,by omega,rfl,HO,L⟩
   case round=>
    obtain⟨k,hk,rfl,l,d⟩:=hrel
    obtain⟨c0,c1⟩:=HC.out _ d
    have r:k=0\/k=1\/k=2:=by omega
    rcases r with rfl | rfl | rfl
    ·obtain⟨M,G,f,a,g⟩:=kY B w.heap.size 53 _ _ 0 [] b wr l.out (V.out.later d Q) (by rw[E.out];omega) d.size
     rw[Z.out] at f
     have s:Hid (G.ownsRow w.heap.size 35 1 M (([b,c].take 1).flatten).length (cE ([b,c].take 1).flatten)):=by
      unfold Hid
      have e:([b,c].take 1).flatten=b:=by simp
      rw[e]
      simpa using a
     have t:Below w.heap.size w G:=d.trans g
     clear a g l
     go_wp2_with (at_builtin;refine Lib.wpList_append_run _ rfl _ _ _ _ rfl _ _ rfl rfl _ _ f ?_)
     exact⟨⟨1,by omega,rfl,s,t⟩,by simp[intOf]⟩
    ·obtain⟨M,G,f,a,g⟩:=kY B w.heap.size 53 _ _ b.length (cE b) c wr (by have:=l.out;simpa using this) (W.out.later d Q) (by rw[E.out,K.out];omega) d.size
     rw[E1.out] at f
     have s:Hid (G.ownsRow w.heap.size 35 1 M (([b,c].take 2).flatten).length (cE ([b,c].take 2).flatten)):=by
      unfold Hid
      have e:([b,c].take 2).flatten=b++c:=by simp
      rw[e,lO,List.length_append]
      exact a
     have t:Below w.heap.size w G:=d.trans g
     clear a g l
     go_wp2_with (at_builtin;refine Lib.wpList_append_run _ rfl _ _ _ _ rfl _ _ rfl rfl _ _ f ?_)
     exact⟨⟨2,by omega,rfl,s,t⟩,by simp[intOf]⟩
    ·have q:=l.out
     have e:([b,c].take 2).flatten=b++c:=by simp
     rw[e] at q
     have N:Hid _:=q
     clear l q e
     go_wp2
     go_ret
     exact⟨_,rfl,N.out,d⟩
end Go.Proofs.YtnpdhopjpjickaaGreatDoor
end
section
set_option linter.all false
set_option maxRecDepth 100000
namespace Go.Proofs.YtnpdhopjpjickaaGreatDoor
open Go.RowKit Go.Maps
def ff:List al:=[(1,1,0,iA),(2,1,0,fb),(2,1,0,iA),(5,0,0,[],0),(4,1,0,[],0),(6,0,0,[],0)]
theorem As:(dY iq ff).2=[0,0,7,0,6,0]:=by decide +kernel
theorem rU:gC iq ff=0:=by decide +kernel
theorem D5:(eT iq ff).2.2=true:=by decide +kernel
theorem tY:kb (eT iq ff) 1 (vX 0 0 0 8 0)=0/\gR (eT iq ff) 1 (vX 0 0 0 8 0)=2:=by decide +kernel
theorem AK:kb (eT iq ff) 2 (vX 0 0 0 0 0)=6:=by decide +kernel
end Go.Proofs.YtnpdhopjpjickaaGreatDoor
end
section
set_option linter.all false
namespace Go.Proofs.YtnpdhopjpjickaaGreatDoor
open Go.RowKit Go.Maps
theorem CG {x:aq} (h:cg x=0):az x.2.1=0:=by
 unfold cg at h
 by_cases a:az x.2.1=0
 ·exact a
 ·rw[if_neg a] at h
  exact h
theorem Ex {x:aq} (h:cg x=0):lm x.2.1:=vW (CG h)
theorem Ed {x:aq} {y:al}:lm (fp x y).2.1:=by
 by_cases h:fI x y=0
 ·exact Ex (mj h)
 ·unfold fp
  rw[if_neg h]
  unfold lm fF
  decide
theorem aC.wide {B b:Nat} {w:World} {v:Value} {x:aq} (h:aC B w v x) (a:B<=b):aC b w v x:=by
 obtain⟨c,d,e,f,g,i,j⟩:=h
 exact⟨c,d,e,f,g.wide a,i.wide a,j.wide a⟩
theorem zq {B:Nat} {w:World} (k:Int) (a:wf k):cV B w (.agg #[.int .i64 k,.int .i64 0,.int .i64 0,.slice none 0 0,.int .i64 0]) (k,0,0,[],0):=⟨_,rfl,a,(by show wf (0:Int);unfold wf;decide),(by show wf (0:Int);unfold wf;decide),dU B w⟩
end Go.Proofs.YtnpdhopjpjickaaGreatDoor
end
