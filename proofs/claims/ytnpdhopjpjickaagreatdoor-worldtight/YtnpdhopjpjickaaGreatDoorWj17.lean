/- Joined: Ord1 OAl0 ShtR Met1 Chn0 Chn2 Cmp5 EqI Prs. -/
import Derived.Test.YtnpdhopjpjickaaGreatDoorWj14
import Derived.Test.YtnpdhopjpjickaaGreatDoorWj12
import Derived.Test.YtnpdhopjpjickaaGreatDoorWj16
import Derived.Test.YtnpdhopjpjickaaGreatDoorWj08
import Derived.Test.YtnpdhopjpjickaaGreatDoorWj07
import Derived.Test.YtnpdhopjpjickaaGreatDoorWj01
import Derived.Laws.StructEq
import Derived.Test.YtnpdhopjpjickaaGreatDoorWj10
section
set_option linter.all false
namespace Go.Proofs.YtnpdhopjpjickaaGreatDoor
theorem zr {p q:ap} (h:bz [p,q]≠0):dE p q=none:=by
 unfold dE bH
 rw[if_neg h]
 rfl
end Go.Proofs.YtnpdhopjpjickaaGreatDoor
end
section
set_option linter.all false
set_option maxRecDepth 100000
namespace Go.Proofs.YtnpdhopjpjickaaGreatDoor
open Go.RowKit Go.Maps
theorem yD {ps:List ap} (a:fw ps) {p:ap} (b:p∈ps) {x:Nat->Int} (c:dw x=0):cm p x=(vP p x,(cm p x).2.1,0):=by
 have:(cm p x).2.2=0:=by rw[gB (a p b) c]
 rw[<-this]
 rfl
end Go.Proofs.YtnpdhopjpjickaaGreatDoor
end
section
set_option linter.all false
set_option maxRecDepth 100000
namespace Go.Proofs.YtnpdhopjpjickaaGreatDoor
open Go.RowKit Go.Maps
theorem mP (p:ap) (r:ai):∀ (l:List ai) (k:Nat),bK p k (l++[r])=bK p k l++if gd p ((k+l.length:Nat):Int) then [r] else []
 | [],k=>by
  show bK p k [r]=_
  unfold bK
  simp[bK]
 | s :: l,k=>by
  have a:=mP p r l (k+1)
  rw[show k+1+l.length=k+(s :: l).length by simp;omega] at a
  show bK p k (s :: (l++[r]))=_
  unfold bK
  split
  ·rw[a];rfl
  ·rw[a]
theorem rT (d:Int) (l:List ai):cA d l=l.take (cA d l).length:=by
 obtain⟨n,h⟩:=jy d l
 rw[h,List.length_take]
 by_cases a:n<=l.length
 ·rw[Nat.min_eq_left a]
 ·rw[Nat.min_eq_right (by omega),List.take_of_length_le (by omega),List.take_length]
theorem Bg:∃ i,Tryz.prog.info? 142=some i/\i.zero=some (.agg #[.slice none 0 0,.int .i64 0])/\i.size=2/\i.bytes=32:=fD (by kernel_rfl)
theorem E2 {B:Nat} {w:World} {a:Option Addr} {n c:Nat} {r:ai} (h:bB B w (.slice a n c) r.1) (e:wf r.2):jP B w [.slice a n c,.int .i64 r.2] [r]:=by
 refine⟨rfl,λu d=>?_,λi s b=>?_⟩
 ·simp at d
  rcases d with rfl | rfl<;>rfl
 ·match i,b with
  | 0,b=>
   simp at b
   subst b
   exact⟨_,rfl,rfl,e,h⟩
  | i+1,b=>simp at b
theorem be.take {B:Nat} {w:World} {a:Option Addr} {n c:Nat} {d:List ai} (h:be B w (.slice a n c) d) (m:Nat) (f:m<=d.length):be B w (.slice a m c) (d.take m):=by
 obtain⟨k,l,e,o,g,j⟩:=h
 simp at e
 obtain⟨rfl,rfl,rfl⟩:=e
 refine⟨a,c,by rw[List.length_take,Nat.min_eq_left f],by rw[List.length_take];omega,g,λi r b=>?_⟩
 rw[List.getElem?_take] at b
 split at b
 ·exact j i r b
 ·cases b
def kQ (p:ap):ap:=if bz [p]=0 then iw p else ([],0)
end Go.Proofs.YtnpdhopjpjickaaGreatDoor
end
section
set_option linter.all false
namespace Go.Proofs.YtnpdhopjpjickaaGreatDoor
theorem C3 {a:Bool} {p q:ap} (h:eU a p q=0):ae p=0/\ae q=0/\ae (il a p q)=0:=by
 unfold eU at h
 split at h
 ·rename_i b
  exact⟨(qu b).1,(qu b).2,h⟩
 ·rename_i b
  exact absurd h b
theorem xC {p:ap} (b:ae p=0) {x:Nat->Int} (c:dw x=0):cm p x=(vP p x,(cm p x).2.1,0):=yD (ps:=[p]) (λq a=>by simp at a;subst a;exact b) (by simp) c
end Go.Proofs.YtnpdhopjpjickaaGreatDoor
end
section
set_option linter.all false
namespace Go.Proofs.YtnpdhopjpjickaaGreatDoor
abbrev gf:=List (List bS)
def dZ:gf->Int
 | []=>0
 | f :: r=>if bt f=0 then dZ r else bt f
def aZ (a:gf):Int:=if 6<a.length then 2 else dZ a
theorem qo:∀ {b:gf},dZ b=0 ↔ ∀ f∈b,bt f=0
 | []=>by simp[dZ]
 | f :: r=>by
  unfold dZ
  by_cases h:bt f=0
  ·rw[if_pos h,qo]
   simp[h]
  ·rw[if_neg h]
   constructor
   ·intro a
    exact absurd a h
   ·intro a
    exact absurd (a f (by simp)) h
theorem tB (a:gf) (k:Nat) (f:List bS) (h:a[k]?=some f):dZ (a.drop k)=if bt f=0 then dZ (a.drop (k+1)) else bt f:=by
 obtain⟨b,rfl⟩:=List.getElem?_eq_some_iff.1 h
 rw[List.drop_eq_getElem_cons b]
 rfl
theorem dN {b:gf}:aZ b=0 ↔ b.length<=6/\∀ f∈b,bt f=0:=by
 unfold aZ
 by_cases h:6<b.length
 ·rw[if_pos h]
  constructor
  ·intro a
   omega
  ·intro a
   omega
 ·rw[if_neg h,qo]
  constructor
  ·intro a
   exact⟨by omega,a⟩
  ·exact λa=>a.2
def fg (x:Nat->Int) (v:Int) (a:gf):Int:=a.foldl (λv f=>if (df x 0 0 f).1<v then (df x 0 0 f).1 else v) v
theorem AA (x:Nat->Int) (v:Int) (a:gf) (f:List bS):fg x v (a++[f])=if (df x 0 0 f).1<fg x v a then (df x 0 0 f).1 else fg x v a:=by
 unfold fg
 rw[List.foldl_append]
 rfl
theorem ku (x:Nat->Int):∀ (d:gf) (v:Int),fg x v d<=v/\(∀ f∈d,fg x v d<=(df x 0 0 f).1)/\(fg x v d=v\/∃ f∈d,fg x v d=(df x 0 0 f).1)
 | [],v=>⟨Int.le_refl _,by simp,.inl rfl⟩
 | f :: r,v=>by
  have e:fg x v (f :: r)=fg x (if (df x 0 0 f).1<v then (df x 0 0 f).1 else v) r:=rfl
  have j:=ku x r (if (df x 0 0 f).1<v then (df x 0 0 f).1 else v)
  rw[e]
  obtain⟨i,h,a⟩:=j
  split at i
  ·rename_i c
   rw[if_pos c] at h a |-
   refine⟨by omega,?_,?_⟩
   ·intro g b
    rcases List.mem_cons.1 b with rfl | b
    ·exact i
    ·exact h g b
   ·rcases a with a | ⟨g,b,a⟩
    ·exact .inr ⟨f,by simp,a⟩
    ·exact .inr ⟨g,by simp[b],a⟩
  ·rename_i c
   rw[if_neg c] at h a |-
   refine⟨i,?_,?_⟩
   ·intro g b
    rcases List.mem_cons.1 b with rfl | b
    ·omega
    ·exact h g b
   ·rcases a with a | ⟨g,b,a⟩
    ·exact .inl a
    ·exact .inr ⟨g,by simp[b],a⟩
theorem up (x:Nat->Int) (l m:gf) (v:Int):fg x v (l++m)=min (fg x v l) (fg x v m):=by
 obtain⟨j,g,b⟩:=ku x l v
 obtain⟨k,i,c⟩:=ku x m v
 obtain⟨n,e,d⟩:=ku x (l++m) v
 have o:fg x v (l++m)<=fg x v l:=by
  rcases b with b | ⟨f,a,b⟩
  ·omega
  ·rw[b];exact e f (by simp[a])
 have p:fg x v (l++m)<=fg x v m:=by
  rcases c with c | ⟨f,a,c⟩
  ·omega
  ·rw[c];exact e f (by simp[a])
 have q:min (fg x v l) (fg x v m)<=fg x v (l++m):=by
  rcases d with d | ⟨f,a,d⟩
  ·omega
  ·rcases List.mem_append.1 a with h | h
   ·have:=g f h;omega
   ·have:=i f h;omega
 omega
def ik (a:gf) (x:Nat->Int):Int:=if aZ a=0 then dw x else aZ a
def j8 (a:gf) (x:Nat->Int):Int:=if ik a x=0 then fg x 4 a else 0
def gi (p q:ap):Int:=if bz [q,p]=0 then (if (dE q p).isSome then 7 else if eU true q p=0 then bz [eI true q p] else eU true q p) else bz [q,p]
def eE (p q:ap):ap:=if gi p q=0 then iw (eI true q p) else ([],0)
def dm (a:gf) (p q:ap):Int:=if aZ a=0 then (if gi p q=0 then (if a.length=6 then 2 else du (eE p q)) else gi p q) else aZ a
def eC (a:gf) (p q:ap):gf:=if dm a p q=0 then a++[cO (eE p q)] else []
theorem sR {p q:ap} (h:gi p q=0):bz [q,p]=0/\dE q p=none/\eU true q p=0/\bz [eI true q p]=0/\eE p q=iw (eI true q p)/\ae p=0/\ae q=0/\ae (eI true q p)=0/\ae (eE p q)=0:=by
 have d:eE p q=iw (eI true q p):=by rw[eE,if_pos h]
 unfold gi at h
 split at h
 ·rename_i c
  split at h
  ·cases h
  ·rename_i e
   split at h
   ·rename_i a
    have f:dE q p=none:=by
     cases hl:dE q p with
     | none=>rfl
     | some y=>rw[hl] at e;simp at e
    obtain⟨g,i,j⟩:=C3 a
    have b:ae (eI true q p)=0:=by rw[eI,if_pos a];exact j
    exact⟨c,f,a,h,d,i,g,b,by rw[d];exact uf b⟩
   ·rename_i a
    exact absurd h a
 ·rename_i c
  exact absurd h c
theorem ya {p q:ap} (h:gi p q=0) {x:Nat->Int} (a:dw x=0):vP q x<=vP p x/\vP (eE p q) x=if vP q x<vP p x then vP q x else 4:=by
 obtain⟨c,d,f,k,g,i,j,b,l⟩:=sR h
 refine⟨wz c d a,?_⟩
 have e:eI true q p=il true q p:=by rw[eI,if_pos f]
 rw[g,Cv b a,e,Da true j i (by rw[<-e];exact b) a]
 rfl
theorem A2 {p:ap} (c:ae p=0) {x:Nat->Int} (e:dw x=0):0<=vP p x/\vP p x<=4:=by
 have:=xg c e
 have f:vP p x=(df x 0 0 (cO p)).1:=this.symm
 have g:∀ (d:Int) (a:List ai),(0<=d/\d<=4)->(∀ r∈a,aR r=0)->0<=vu x d a/\vu x d a<=4:=by
  intro d a h b
  induction a with
  | nil=>exact h
  | cons r s i=>
   unfold vu
   split
   ·exact gD (db (b r (by simp))).2.1
   ·exact i λt j=>b t (by simp[j])
 rw[f]
 unfold cO
 rw[nk]
 exact g _ _ (gD (cu c).2.1) (bZ (cu c).2.2)
end Go.Proofs.YtnpdhopjpjickaaGreatDoor
end
section
set_option linter.all false
set_option maxRecDepth 100000
namespace Go.Proofs.YtnpdhopjpjickaaGreatDoor
open Go.ChangeShapes Go.WideShapes Go.ChangeAt Go.RowKit Go.Deep
def cH (B:Nat) (w:World) (v:Value) (d:gf):Prop:=
 ∃ a c,v=.slice a d.length c/\d.length<=c/\c<=maxLen/\∀ (i:Nat) f,d[i]?=some f->∃ b o e,a=some ⟨b,o,none⟩/\b<B/\w.cell? ⟨b,o+i,none⟩=some e/\d7 B w e f
theorem cH.later {B c:Nat} {w w':World} {v:Value} {g:gf} (h:cH B w v g) (j:Below c w w') (l:B<=c):cH B w' v g:=by
 obtain⟨a,d,m,n,q,r⟩:=h
 refine⟨a,d,m,n,q,λi f s=>?_⟩
 obtain⟨b,o,t,e,u,k,x⟩:=r i f s
 exact⟨b,o,t,e,u,(j.cell (p:=⟨b,o+i,none⟩) (by show b<c;omega)).trans k,x.later j l⟩
theorem cH.mono {B d:Nat} {w:World} {v:Value} {g:gf} (h:cH B w v g) (j:B<=d):cH d w v g:=by
 obtain⟨a,c,l,m,n,p⟩:=h
 refine⟨a,c,l,m,n,λi f q=>?_⟩
 obtain⟨b,o,r,e,t,k,s⟩:=p i f q
 exact⟨b,o,r,e,by omega,k,s.mono j⟩
theorem cH.shape {B:Nat} {w:World} {v:Value} {c:gf} (h:cH B w v c):∃ a b,v=.slice a c.length b/\c.length<=b/\b<=maxLen:=by
 obtain⟨a,b,d,e,f,-⟩:=h
 exact⟨a,b,d,e,f⟩
theorem py (B:Nat) (w:World):cH B w (.slice none 0 0) []:=⟨none,0,rfl,Nat.le_refl _,by rw[ag];omega,λi c h=>by simp at h⟩
theorem cH.take {B:Nat} {w:World} {a:Option Addr} {n c:Nat} {d:gf} (h:cH B w (.slice a n c) d) (m:Nat) (l:m<=d.length):cH B w (.slice a m c) (d.take m):=by
 obtain⟨o,g,e,p,j,k⟩:=h
 simp at e
 obtain⟨rfl,rfl,rfl⟩:=e
 refine⟨a,c,by simp;omega,by simp;omega,j,λi f b=>?_⟩
 exact k i f (by
  rw[List.getElem?_take] at b
  split at b
  ·exact b
  ·cases b)
theorem Am {H:Type} {s:TypeId × Value->H} {W:World} {j:Nat} {L:Nat->Bool} {k:Bool} {l:Nat} {cv:Value} {x:DataW H × List MemPlace} (h:DataW.trod s Tryz.prog W j L k l 44 [cv]=some x):∃ t,cH W.heap.size W cv t:=by
 rcases open_slice Tryz.underlying44 h with ⟨o,_⟩ | ⟨a,e,u,m,n,D,R,o,_,S,M,w,_,y⟩
 ·simp at o
  subst o
  exact⟨[],none,0,rfl,Nat.le_refl _,Nat.zero_le _,λi c z=>by simp at z⟩
 ·simp at o
  subst o
  have N:Tryz.prog.cellsOf 85=1:=by kernel_rfl
  rw[N] at y
  have O:e<=m:=by rw[w];split<;>omega
  have p:∀ i,i<e->∃ f:List bS,a=⟨a.block,a.off,none⟩/\a.block<W.heap.size/\∃ q,W.cell? ⟨a.block,a.off+i,none⟩=some q/\d7 W.heap.size W q f:=by
   intro i J
   have A:W.cell? (a.add 0)≠none:=by
    obtain⟨g,B,_⟩:=y 0 (by omega)
    obtain⟨_,d,b⟩:=World.cells?_some B
    have:=b 0 (by omega)
    rw[add_add] at this
    simp at this
    match g,d with
    | [K],_=>simp at this |-;rw[this];simp
   obtain⟨v,P⟩:=Option.ne_none_iff_exists'.1 A
   obtain⟨r,C⟩:=gn P
   obtain⟨g,B,Q⟩:=y i (by omega)
   obtain⟨_,d,b⟩:=World.cells?_some B
   match g,d with
   | [K],_=>
    obtain⟨f,E⟩:=Bp Q
    have F:=b 0 (by omega)
    rw[add_add,r,dL] at F
    simp at F
    exact⟨f,r,C,K,F,E⟩
  obtain⟨t,G,I⟩:=ic _ e p
  refine⟨t,some a,u,by rw[G],by omega,M,λi f E=>?_⟩
  obtain⟨r,C,q,z,J⟩:=I i f E
  exact⟨a.block,a.off,q,by rw[<-r],C,z,J⟩
end Go.Proofs.YtnpdhopjpjickaaGreatDoor
end
section
set_option linter.all false
set_option maxRecDepth 100000
namespace Go.Proofs.YtnpdhopjpjickaaGreatDoor
open Go.RowKit Go.Maps
theorem Eu (d:Nat) (a b c e f g h i:Int) (w:World):(Op.equalIn (d+3) 122 (.agg #[.int .i64 a,.int .i64 b,.int .i64 c,.int .i64 e]) (.agg #[.int .i64 f,.int .i64 g,.int .i64 h,.int .i64 i])).run Tryz.prog w=.ok (decide (((a,b,c,e):bS)=(f,g,h,i))) w:=by
 have p:=Tryz.underlying3
 have q:=Tryz.isAgg3
 have r:=Tryz.sizeOf3
 have j:Tryz.prog.underlying 122=some (.struct (Tryz.prog.fieldsOf 122)):=by kernel_rfl
 have k:Tryz.prog.stoodInHeld 122=false:=by kernel_rfl
 rw[run_equalIn_agg w (d+2) 122 _ _ j k]
 simp only[Program.fieldsOf,Tryz.underlying122]
 go_simp
 by_cases l:a=f<;>by_cases m:b=g<;>by_cases n:c=h<;>by_cases o:e=i<;>simp[l,m,n,o]
theorem DW (a b c e d f g h:Int) (w:World):(binOp .neq 122 (.agg #[.int .i64 a,.int .i64 b,.int .i64 c,.int .i64 e]) (.agg #[.int .i64 d,.int .i64 f,.int .i64 g,.int .i64 h])).run Tryz.prog w=.ok (.bool (!decide (((a,b,c,e):bS)=(d,f,g,h)))) w:=by
 rw[run_neq_struct,show (10000:Nat)=9997+3 from rfl,Eu]
 rfl
theorem BH (a:BinOp) (x y:Operand) (xs ys:Array Value) (w:World):(eqGuard a 122 x y (.agg xs) (.agg ys)).run Tryz.prog w=.ok () w:=run_eqGuard_agg _ _ _ _ _ _ _ (by kernel_rfl)
theorem lA {d:Array Oper} {C:World->Prop} {Q:Act->Prop} {a:Act} {o:Oper} {c:List Oper} (x y:Operand) (t:TypeId) (kf:o.op=.binOp .neq 122 x y t) (k:Region.wanted o (yielded d a.tmps)=true)
  (f g v u i b j u2:Int) (l:a.eval x=.agg #[.int .i64 f,.int .i64 g,.int .i64 v,.int .i64 u]) (m:a.eval y=.agg #[.int .i64 i,.int .i64 b,.int .i64 j,.int .i64 u2])
  (q:Bool) (n:(!decide (((f,g,v,u):bS)=(i,b,j,u2)))=q) (h:wpQuiet Tryz.prog d C Q c (a.put o.dst (.bool q))):wpQuiet Tryz.prog d C Q (o :: c) a:=by
 subst n
 refine BigFrame.wpQuiet_want k λK p=>⟨_,λw _=>?_,p _ h⟩
 unfold Oper.quietAt execOp
 rw[kf]
 simp only[l,m]
 have e:((do eqGuard .neq 122 x y (.agg #[.int .i64 f,.int .i64 g,.int .i64 v,.int .i64 u]) (.agg #[.int .i64 i,.int .i64 b,.int .i64 j,.int .i64 u2]);binOp .neq 122 (.agg #[.int .i64 f,.int .i64 g,.int .i64 v,.int .i64 u]) (.agg #[.int .i64 i,.int .i64 b,.int .i64 j,.int .i64 u2])):Sem Value).run Tryz.prog w=.ok (.bool (!decide (((f,g,v,u):bS)=(i,b,j,u2)))) w:=by
  simp only[Sem.run_bind,BH,DW,Result.andThen]
 simp only[Sem.run_bind,e,Result.andThen]
 exact⟨rfl,rfl⟩
end Go.Proofs.YtnpdhopjpjickaaGreatDoor
end
section
set_option linter.all false
set_option maxRecDepth 100000
namespace Go.Proofs.YtnpdhopjpjickaaGreatDoor
open Go.RowKit Go.Maps
set_option maxHeartbeats 1000000 in
theorem zQ2 (B:Nat) (cv T:Value) (cs p:List bS) (w:World) (hc:d7 B w cv cs) (I:d7 B w T p) (hB:B<=w.heap.size):
  Calls Tryz.prog 92 #[cv,T] w λe w'=>e=.returned (.bool (decide (cs=p)))/\Below w.heap.size w w':=by
 obtain⟨a,ac,rfl,ad,ak,J⟩:=hc
 obtain⟨a2,U,rfl,K,V,L⟩:=I
 have M:=hid J
 have N:=hid L
 clear J L
 by_cases q:cs.length=p.length
 ·generalize hn:cs.length=n at*
  have W:p.length=n:=q.symm
  clear q
  rw[W] at K
  simp only[W]
  have ao:n<=9223372036854775807:=by have:=ag;omega
  go_enter Tryz.func92,Tryz.ntmps92
  go_wp2
  go_loopw [13] (λi wr=>∃ k:Nat,k<=n/\i=.int .i64 k/\Hid (∀ i,i<k->cs[i]?=p[i]?)/\Below w.heap.size w wr) (λi _=>n-(intOf i).toNat)
  case atStart=>exact⟨0,by omega,rfl,λi h=>absurd h (by omega),Below.refl _ _⟩
  case round=>
   obtain⟨k,hk,rfl,H,g⟩:=hrel
   have i0:(0:Int)<=(k:Int):=by omega
   by_cases av:k<n
   ·have i1:(k:Int)<(n:Int):=by omega
    obtain⟨c,y⟩:∃ c,cs[k]?=some c:=⟨cs[k]'(by omega),by simp⟩
    obtain⟨d,z⟩:∃ d,p[k]?=some d:=⟨p[k]'(by omega),by simp⟩
    obtain⟨b,o,rfl,b0,O⟩:=M.out k c y
    obtain⟨P,Q,rfl,X,r⟩:=N.out k d z
    have s:=hid y
    have t:=hid z
    clear y z
    obtain⟨Y,Z,c2,c3,_⟩:=O.later g (by omega)
    obtain⟨d0,d1,d2,d3,_⟩:=r.later g (by omega)
    obtain⟨f,D,v,u⟩:=c
    obtain⟨E,j,F,G⟩:=d
    simp only[] at Y Z c2 c3 d0 d1 d2 d3
    clear O r
    go_wp2
    have b1:=g.size
    have q:=aw.ne wr
    have b3:∀ x:aw wr,x.1.cell? ⟨b,o+k*4,none⟩=some (.int .i64 f):=λx=>x.cell Y (by omega)
    have b4:∀ x:aw wr,x.1.cell? ⟨b,o+k*4+1,none⟩=some (.int .i64 D):=λx=>x.cell Z (by omega)
    have b5:∀ x:aw wr,x.1.cell? ⟨b,o+k*4+2,none⟩=some (.int .i64 v):=λx=>x.cell c2 (by omega)
    have b6:∀ x:aw wr,x.1.cell? ⟨b,o+k*4+3,none⟩=some (.int .i64 u):=λx=>x.cell c3 (by omega)
    have b7:∀ x:aw wr,x.1.cell? ⟨P,Q+k*4+3,none⟩=some (.int .i64 G):=λx=>x.cell d3 (by omega)
    have b8:∀ x:aw wr,x.1.cell? ⟨P,Q+k*4,none⟩=some (.int .i64 E):=λx=>x.cell d0 (by omega)
    have b9:∀ x:aw wr,x.1.cell? ⟨P,Q+k*4+1,none⟩=some (.int .i64 j):=λx=>x.cell d1 (by omega)
    have ba:∀ x:aw wr,x.1.cell? ⟨P,Q+k*4+2,none⟩=some (.int .i64 F):=λx=>x.cell d2 (by omega)
    by_cases l:((f,D,v,u):bS)=(E,j,F,G)
    ·have A:=hid l
     have I:Hid ((!decide (((f,D,v,u):bS)=(E,j,F,G)))=false):=by unfold Hid;simp[l]
     clear l
     refine bn (by kernel_rfl) (by kernel_rfl) ?_
     repeat (go_big_quiet_step (fail))
     refine lA _ _ _ rfl rfl f D v u E j F G rfl rfl _ I.out ?_
     refine wpQuiet_nil ?_
     rintro wx ⟨⟨_,R⟩,rfl⟩
     have C:=Below.thenOf g R g.size
     go_wp2
     refine⟨⟨k+1,by omega,by go_num,λi hi=>?_,C⟩,by simp[intOf];omega⟩
     by_cases S:i=k
     ·subst S;rw[s.out,t.out,A.out]
     ·exact H.out i (by omega)
    ·have A:=hid l
     have I:Hid ((!decide (((f,D,v,u):bS)=(E,j,F,G)))=true):=by unfold Hid;rw[decide_eq_false l];rfl
     clear l
     refine bn (by kernel_rfl) (by kernel_rfl) ?_
     repeat (go_big_quiet_step (fail))
     refine lA _ _ _ rfl rfl f D v u E j F G rfl rfl _ I.out ?_
     refine wpQuiet_nil ?_
     rintro wx ⟨⟨_,R⟩,rfl⟩
     have C:=Below.thenOf g R g.size
     go_wp2
     go_ret
     refine⟨?_,C⟩
     have:cs≠p:=by
      intro h
      have h1:=s.out
      rw[h,t.out] at h1
      exact A.out (Option.some.inj h1).symm
     simp[this]
   ·go_wp2
    go_ret
    refine⟨?_,g⟩
    have:cs=p:=by
     refine List.ext_getElem? λi=>?_
     by_cases hi:i<k
     ·exact H.out i hi
     ·rw[List.getElem?_eq_none (by omega),List.getElem?_eq_none (by omega)]
    simp[this]
 ·have bc:((cs.length:Int) != (p.length:Int))=true:=by simp;omega
  have hf:Hid (decide (cs=p)=false):=by unfold Hid;simp;intro h;rw[h] at q;exact q rfl
  generalize cs.length=n at*
  generalize p.length=m at*
  go_enter Tryz.func92,Tryz.ntmps92
  go_wp2
  go_ret
  exact⟨by rw[hf.out];rfl,Below.refl _ _⟩
end Go.Proofs.YtnpdhopjpjickaaGreatDoor
end
section
set_option linter.all false
set_option maxRecDepth 100000
namespace Go.Proofs.YtnpdhopjpjickaaGreatDoor
open Go.RowKit Go.Maps
set_option maxHeartbeats 4000000 in
theorem uo (s:ByteArray) (w:World) (he:dX w):
  Calls Tryz.prog 185 #[.string s] w λe l=>∃ R,e=.returned (.tuple #[R,.int .i64 (cy s.data.toList).2])/\jR w.heap.size l R (cy s.data.toList).1/\Below w.heap.size w l:=by
 have E:∀ X,Below w.heap.size w (w.alloc X):=λX=>(Below.refl _ _).alloc (Nat.le_refl _) _
 have HB:Hid (∀ l T,Below (w.heap.size+1) (w.alloc (.cells #[.slice none 0 0,.int .i64 0] T)) l->l.heap[w.heap.size]?=some (.cells #[.slice none 0 0,.int .i64 0] T (0,0))/\Below w.heap.size w l):=λl T h=>⟨(h.block w.heap.size (by omega)).trans (MapKept.heap_alloc w _).1,(E _).trans (h.mono (by omega))⟩
 have K:=Lib.size_eq s
 by_cases F:60000<s.size
 ·have G:Hid (cy s.data.toList=(([],0),2)):=by unfold Hid cy;rw[if_pos (by omega)]
  have hl:(60000:Int)<(s.size:Int):=by omega
  have t:=(MapKept.heap_alloc w (.cells #[.slice none 0 0,.int .i64 0] 30)).1
  have L:=E (.cells #[.slice none 0 0,.int .i64 0] 30)
  clear K
  go_enter Tryz.func185,Tryz.ntmps185
  go_wp2
  refine bodyPost_ret (v:=.tuple #[.agg #[.slice none 0 0,.int .i64 0],.int .i64 2]) ?_ rfl ⟨_,by rw[G.out],by rw[G.out];exact jR.zero _ _,?_⟩
  ·rw[results_cell_tmp rfl]
   go_simp
  ·first | exact L | exact (L.setCell (p:=⟨w.heap.size,0,none⟩) (Nat.le_refl _) _).setCell (p:=⟨w.heap.size,1,none⟩) (Nat.le_refl _) _
 ·have hl:¬((60000:Int)<(s.size:Int)):=by omega
  have M:=sW s (by omega) (w.alloc (.cells #[.slice none 0 0,.int .i64 0] 30)) (he.later (E _))
  have N:Hid _:=M
  have G:Hid (cy s.data.toList=match zQ1 s.data.toList with
   | none=>(([],0),1)
   | some p=>if ae p=0 then (p,0) else (([],0),ae p)):=by unfold Hid cy;rw[if_neg (by omega)];rfl
  clear M K F
  generalize zQ1 s.data.toList=po at*
  cases po with
  | none=>
   have m:=hid G.out
   clear G
   go_enter Tryz.func185,Tryz.ntmps185
   go_wp2_with fail
   go_at_call 213
   refine Calls.mono N.out ?_
   rintro e f ⟨R,rfl,j,H⟩
   simp only[World.size_alloc] at H j
   obtain⟨t,A⟩:=HB.out _ _ H
   obtain⟨a,n,k,rfl⟩:=j.shape
   have Y:w.heap.size+1<=f.heap.size:=by have:=H.size;simpa using this
   have c:∀ X,(f.alloc X).heap[w.heap.size]?=some (.cells #[.slice none 0 0,.int .i64 0] 30 (0,0)):=λX=>(Below.heap_alloc _ _ _ (by omega)).trans t
   have t0:∀ X,(f.alloc X).cell? ⟨w.heap.size,0,none⟩=some (.slice none 0 0):=λX=>(ah (c X)).1
   have t1:∀ X,(f.alloc X).cell? ⟨w.heap.size,1,none⟩=some (.int .i64 0):=λX=>(ah (c X)).2.1
   have t2:∀ X,(f.alloc X).frozen? ⟨w.heap.size,0,none⟩=false:=λX=>(ah (c X)).2.2.1
   have t3:∀ X,(f.alloc X).frozen? ⟨w.heap.size,1,none⟩=false:=λX=>(ah (c X)).2.2.2
   have I:Hid _:=c
   clear t c j
   go_wp2_with fail
   have x:=ch (u:=.int .i64 0) (cG (u:=.slice none 0 0) (I.out (.cells #[.slice a n k,.int .i64 0] 30)))
   obtain⟨z0,z1,_,_⟩:=ah x
   refine bodyPost_ret (v:=.tuple #[.agg #[.slice none 0 0,.int .i64 0],.int .i64 1]) ?_ rfl ⟨_,by rw[m.out],by rw[m.out];exact jR.zero _ _,((A.alloc (by omega) _).setCell (p:=⟨w.heap.size,0,none⟩) (Nat.le_refl _) _).setCell (p:=⟨w.heap.size,1,none⟩) (Nat.le_refl _) _⟩
   rw[results_cell_tmp rfl]
   go_simp
  | some p=>
   obtain⟨S,d⟩:=p
   have m:=hid G.out
   clear G
   go_enter Tryz.func185,Tryz.ntmps185
   go_wp2_with fail
   go_at_call 213
   refine Calls.mono N.out ?_
   rintro e f ⟨R,rfl,j,H⟩
   simp only[World.size_alloc] at H j
   obtain⟨t,A⟩:=HB.out _ _ H
   obtain⟨a,n,k,rfl⟩:=j.shape
   have Y:w.heap.size+1<=f.heap.size:=by have:=H.size;simpa using this
   have B:=hid j
   have Z:Hid (∀ l,Below f.heap.size f l->Calls Tryz.prog 152 #[.agg #[.slice a n k,.int .i64 d]] l λe a0=>e=.returned (.int .i64 (ae (S,d)))/\Below l.heap.size l a0):=λl h=>fm l.heap.size _ (S,d) l (B.out.keep (λg h1 h2=>h.block g h2) h.size).at (Nat.le_refl _)
   have I:Hid _:=t
   clear t j
   generalize av:ae (S,d)=U at*
   have y:Below f.heap.size f (f.alloc (.cells #[.slice a n k,.int .i64 d] 30)):=(Below.refl _ _).alloc (Nat.le_refl _) _
   go_wp2_with fail
   go_at_call 152
   refine Calls.mono (Z.out _ y) ?_
   rintro e V ⟨rfl,J⟩
   have q:=Below.thenOf y J (by simp)
   have c:V.heap[w.heap.size]?=some (.cells #[.slice none 0 0,.int .i64 0] 30 (0,0)):=(q.block _ (by omega)).trans I.out
   obtain⟨t0,t1,t2,t3⟩:=ah c
   have O:V.heap[f.heap.size]?=some (.cells #[.slice a n k,.int .i64 d] 30 (0,0)):=(J.block _ (by simp)).trans (MapKept.heap_alloc f _).1
   obtain⟨b0,b1,_,_⟩:=ah O
   have C:Below w.heap.size w V:=Below.thenOf A q A.size
   have D:Hid _:=c
   have a5:¬(f.heap.size=w.heap.size):=by omega
   have a6:¬(w.heap.size=f.heap.size):=by omega
   have P:=q.size
   clear c O J y
   by_cases W:U=0
   ·subst W
    have z:Hid (cy s.data.toList=((S,d),0)):=by unfold Hid;rw[m.out,if_pos rfl]
    clear m
    go_wp2_with fail
    have x:=ch (u:=.int .i64 d) (cG (u:=.slice a n k) D.out)
    obtain⟨z0,z1,_,_⟩:=ah x
    refine bodyPost_ret (v:=.tuple #[.agg #[.slice a n k,.int .i64 d],.int .i64 0]) ?_ rfl ⟨_,by rw[z.out],?_,(C.setCell (p:=⟨w.heap.size,0,none⟩) (Nat.le_refl _) _).setCell (p:=⟨w.heap.size,1,none⟩) (Nat.le_refl _) _⟩
    ·rw[results_cell_tmp rfl]
     go_simp
    ·rw[z.out]
     have h3:=B.out.keep (w':=(V.setCell ⟨w.heap.size,0,none⟩ (.slice a n k)).setCell ⟨w.heap.size,1,none⟩ (.int .i64 d)) (λg h1 h2=>(mG 0 _ _ (by omega)).trans (q.block g h2)) (by simp;exact P)
     obtain⟨rv,e1,e2,a',Q,e3,e4,e5,e6⟩:=h3
     refine⟨rv,e1,e2,a',Q,e3,e4,e5,λi r hr=>?_⟩
     obtain⟨b,o,k1,k2,k3,cv,k4,k5,k6,k7⟩:=e6 i r hr
     exact⟨b,o,k1,by omega,k3,cv,k4,k5,k6,k7.mono (by omega)⟩
   ·have hq:(U != 0)=true:=by simpa using W
    have z:Hid (cy s.data.toList=(([],0),U)):=by unfold Hid;rw[m.out,if_neg W]
    clear m W
    go_wp2_with fail
    have x:=ch (u:=.int .i64 0) (cG (u:=.slice none 0 0) D.out)
    obtain⟨z0,z1,_,_⟩:=ah x
    refine bodyPost_ret (v:=.tuple #[.agg #[.slice none 0 0,.int .i64 0],.int .i64 U]) ?_ rfl ⟨_,by rw[z.out],by rw[z.out];exact jR.zero _ _,(C.setCell (p:=⟨w.heap.size,0,none⟩) (Nat.le_refl _) _).setCell (p:=⟨w.heap.size,1,none⟩) (Nat.le_refl _) _⟩
    rw[results_cell_tmp rfl]
    go_simp
end Go.Proofs.YtnpdhopjpjickaaGreatDoor
end
