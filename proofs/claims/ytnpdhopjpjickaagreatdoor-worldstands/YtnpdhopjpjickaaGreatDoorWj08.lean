/- Joined: Ord0 Sht0 Met0 Pols Pnt1 Cut1 Cut1b Pts0 PolsN Bld. -/
import Derived.Test.YtnpdhopjpjickaaGreatDoorWj06
import Derived.Test.YtnpdhopjpjickaaGreatDoorWj03
import Derived.Test.YtnpdhopjpjickaaGreatDoorWj04
import Derived.Maps.RangeWalk
import Derived.Lib.AppendZerosOnto
import Derived.Lib.AppendZeros
import Derived.Test.YtnpdhopjpjickaaGreatDoorShelf
import Derived.Lib.Builder
import Derived.Lib.AppendStr
import Derived.Lib.Walk
import Derived.Laws.Externs
import Derived.Laws.IdiomCopy
section
set_option linter.all false
namespace Go.Proofs.YtnpdhopjpjickaaGreatDoor
def vP (p:ap) (x:Nat->Int):Int:=(cm p x).1
def kP (p:ap) (x:Nat->Int):Int:=(cm p x).2.1
def DN (l:List Int):Nat->Int:=vX (l.getD 0 0) (l.getD 1 0) (l.getD 2 0) (l.getD 3 0) (l.getD 4 0)
theorem oM {p:ap} {x y:Nat->Int} (h:∀ j,j<5->x j=y j):cm p x=cm p y:=by
 have e:dw x=dw y:=by unfold dw;rw[h 0 (by omega),h 1 (by omega),h 2 (by omega),h 3 (by omega),h 4 (by omega)]
 by_cases b:ae p=0
 ·by_cases d:dw x=0
  ·rw[gB b d,gB b (e▸d)]
   have f:∀ r∈p.1,aX x r=aX y r:=by
    intro r f
    have g:=eM (db (bZ (cu b).2.2 r f)).2.2
    unfold aX
    rw[Bool.eq_iff_iff,List.all_eq_true,List.all_eq_true]
    have:∀ c∈r.1,dI x c=dI y c:=λc a=>by
     have:=(eG (g c a)).1
     unfold dI
     rw[h c.1.toNat (by omega)]
    constructor
    ·intro i c a;rw[<-this c a];exact i c a
    ·intro i c a;rw[this c a];exact i c a
   rw[jK _ _ p.1 0 f]
  ·unfold cm
   rw[if_pos b,if_neg d,if_pos b,if_neg (e▸d),e]
 ·unfold cm
  rw[if_neg b,if_neg b]
theorem su (x:Nat->Int):∀ j,j<5->DN (jf x) j=x j:=by
 intro j a
 have:j=0\/j=1\/j=2\/j=3\/j=4:=by omega
 rcases this with rfl | rfl | rfl | rfl | rfl<;>rfl
def bQ:List ap->Int
 | []=>0
 | p :: r=>if ae p=0 then bQ r else ae p
theorem j6:∀ {l:List ap},bQ l=0 ↔ fw l
 | []=>by simp[bQ,fw]
 | p :: r=>by
  unfold bQ
  by_cases h:ae p=0
  ·rw[if_pos h,j6]
   constructor
   ·intro a q b
    rcases List.mem_cons.1 b with rfl | b
    ·exact h
    ·exact a q b
   ·intro a q b
    exact a q (by simp[b])
  ·rw[if_neg h]
   constructor
   ·intro c;exact absurd c h
   ·intro a;exact a p (by simp)
def bz (l:List ap):Int:=if bQ l=0 then (if 1000<(fy l).length then 2 else 0) else bQ l
def bH (l:List ap):List (List Int):=if bz l=0 then fy l else []
theorem nB {l:List ap}:bz l=0 ↔ fw l/\(fy l).length<=1000:=by
 unfold bz
 by_cases h:bQ l=0
 ·rw[if_pos h]
  constructor
  ·intro a
   refine⟨j6.1 h,?_⟩
   split at a
   ·cases a
   ·omega
  ·rintro⟨_,a⟩
   rw[if_neg (by omega)]
 ·rw[if_neg h]
  constructor
  ·intro a;exact absurd a h
  ·rintro⟨a,_⟩;exact absurd (j6.2 a) h
def dJ (p q:ap) (x:List Int):Bool:=decide (vP q (DN x)<vP p (DN x))
def dE (p q:ap):Option (List Int):=(bH [p,q]).find? (dJ p q)
theorem wz {p q:ap} (c:bz [p,q]=0) (h:dE p q=none) {x:Nat->Int} (d:dw x=0):vP p x<=vP q x:=by
 obtain⟨a,_⟩:=nB.1 c
 unfold dE bH at h
 rw[if_pos c,List.find?_eq_none] at h
 have b:=h _ (rS a d)
 unfold dJ at b
 rw[decide_eq_true_eq] at b
 have e:∀ r∈[p,q],vP r (DN (jf (jU [p,q] x)))=vP r x:=λr f=>by
  unfold vP
  rw[oM (su _),t5 a d f]
 rw[e p (by simp),e q (by simp)] at b
 omega
def p8 (c:Bool) (a b:Int):Int:=if a<b then a else if c then 4 else b
def fL (a:Bool) (r s:ai):ai:=(r.1++s.1,p8 a r.2 s.2)
def gO (a:Bool) (p q:ap):List ai:=p.1.flatMap (λr=>q.1.map (fL a r)++[fL a r ([],q.2)])++q.1.map (fL a ([],p.2))
def il (a:Bool) (p q:ap):ap:=(gO a p q,p8 a p.2 q.2)
def dt (x:Nat->Int) (d:Int):List ai->Int
 | []=>d
 | r :: s=>if aX x r then r.2 else dt x d s
theorem qq (x:Nat->Int) (d:Int) (a:List ai):∀ (c:List ai) (k:Nat),a.drop k=c->dt x d c=(cZ (a,d) (aD (aX x) k c)).1
 | [],k,_=>by simp[dt,aD,cZ]
 | r :: s,k,h=>by
  have e:a[k]?=some r:=by
   have:(a.drop k)[0]?=some r:=by rw[h];rfl
   simpa using this
  rw[dt,aD]
  by_cases b:aX x r=true
  ·rw[if_pos b,if_pos b,cZ,if_neg (by omega)]
   simp[e]
  ·rw[if_neg b,if_neg b]
   refine qq x d a s (k+1) ?_
   rw[<-List.drop_drop,h]
   rfl
theorem oA {p:ap} {x:Nat->Int} (a:ae p=0) (b:dw x=0):vP p x=dt x p.2 p.1:=by
 unfold vP
 rw[gB a b]
 exact (qq x p.2 p.1 p.1 0 rfl).symm
theorem jC (x:Nat->Int) (a:Bool) (r s:ai):aX x (fL a r s)=(aX x r&&aX x s):=by
 unfold aX fL
 rw[List.all_append]
theorem kA (x:Nat->Int) (d:Int):∀ (l m:List ai),dt x d (l++m)=dt x (dt x d m) l
 | [],m=>rfl
 | r :: l,m=>by
  show (if aX x r then r.2 else dt x d (l++m))=if aX x r then r.2 else dt x (dt x d m) l
  rw[kA x d l m]
theorem xk (x:Nat->Int) (d:Int):∀ l:List ai,(∀ r∈l,aX x r=false)->dt x d l=d
 | [],_=>rfl
 | r :: l,h=>by
  rw[dt,if_neg (by simp[h r (by simp)])]
  exact xk x d l λs a=>h s (by simp[a])
theorem mp (x:Nat->Int) (a:Bool) (r:ai) (c:aX x r=true) (b d:Int):∀ l:List ai,dt x (p8 a r.2 b) (l.map (fL a r))=p8 a r.2 (dt x b l)
 | []=>rfl
 | s :: l=>by
  rw[List.map_cons,dt,dt,jC,c,Bool.true_and,mp x a r c b d l]
  split<;>rfl
theorem sB (x:Nat->Int) (a:Bool) (q:ap) (b:Int):∀ d:List ai,dt x (p8 a b q.2) (gO a (d,b) q)=p8 a (dt x b d) (dt x q.2 q.1)
 | []=>by
  unfold gO
  simp only[List.flatMap_nil,List.nil_append]
  exact mp x a ([],b) rfl q.2 0 q.1
 | r :: d=>by
  have g:=sB x a q b d
  unfold gO at g |-
  simp only[List.flatMap_cons] at g |-
  rw[List.append_assoc,kA,g]
  by_cases e:aX x r=true
  ·have h:dt x (p8 a (dt x b d) (dt x q.2 q.1)) [fL a r ([],q.2)]=p8 a r.2 q.2:=by
    rw[dt,jC,e]
    rfl
   rw[kA,h,mp x a r e q.2 0 q.1,dt,if_pos e]
  ·rw[xk,dt,if_neg e]
   intro s c
   have f:aX x r=false:=by simpa using e
   rcases List.mem_append.1 c with c | c
   ·obtain⟨t,_,rfl⟩:=List.mem_map.1 c
    rw[jC,f]
    rfl
   ·rw[List.mem_singleton] at c
    subst c
    rw[jC,f]
    rfl
theorem Da {p q:ap} {x:Nat->Int} (a:Bool) (c:ae p=0) (d:ae q=0) (e:ae (il a p q)=0) (b:dw x=0):vP (il a p q) x=p8 a (vP p x) (vP q x):=by
 rw[oA e b,oA c b,oA d b]
 exact sB x a q p.2 p.1
end Go.Proofs.YtnpdhopjpjickaaGreatDoor
end
section
set_option linter.all false
namespace Go.Proofs.YtnpdhopjpjickaaGreatDoor
def gd (p:ap) (i:Int):Bool:=(fy [p]).any λx=>kP p (DN x)==i
def bK (p:ap):Nat->List ai->List ai
 | _,[]=>[]
 | k,r :: s=>if gd p k then r :: bK p (k+1) s else bK p (k+1) s
def cA (d:Int):List ai->List ai
 | []=>[]
 | r :: s=>if cA d s=[]/\r.2=d then [] else r :: cA d s
def iw (p:ap):ap:=(cA p.2 (bK p 0 p.1),p.2)
theorem oN (x:Nat->Int) (d:Int):∀ l:List ai,dt x d (cA d l)=dt x d l
 | []=>rfl
 | r :: s=>by
  have a:=oN x d s
  unfold cA
  split
  ·rename_i h
   rw[h.1] at a
   show d=if aX x r then r.2 else dt x d s
   rw[<-a]
   split
   ·exact h.2.symm
   ·rfl
  ·show (if aX x r then r.2 else dt x d (cA d s))=if aX x r then r.2 else dt x d s
   rw[a]
theorem jy (d:Int):∀ l:List ai,∃ n,cA d l=l.take n
 | []=>⟨0,rfl⟩
 | r :: s=>by
  obtain⟨n,h⟩:=jy d s
  unfold cA
  split
  ·exact⟨0,rfl⟩
  ·exact⟨n+1,by rw[h];rfl⟩
theorem iN (p:ap):∀ (l:List ai) (k:Nat),∀ r∈bK p k l,r∈l
 | [],_,r,h=>by simp[bK] at h
 | s :: l,k,r,h=>by
  unfold bK at h
  split at h
  ·rcases List.mem_cons.1 h with rfl | h
   ·simp
   ·simp[iN p l (k+1) r h]
  ·simp[iN p l (k+1) r h]
theorem kE (p:ap):∀ (l:List ai) (k:Nat),(bK p k l).length<=l.length
 | [],_=>by simp[bK]
 | s :: l,k=>by
  have:=kE p l (k+1)
  unfold bK
  split<;>simp<;>omega
theorem zl (p:ap):∀ r∈(iw p).1,r∈p.1:=by
 intro r a
 unfold iw at a
 obtain⟨n,h⟩:=jy p.2 (bK p 0 p.1)
 simp only[h] at a
 exact iN p p.1 0 r (List.mem_of_mem_take a)
theorem yj (p:ap):(iw p).1.length<=p.1.length:=by
 unfold iw
 obtain⟨n,h⟩:=jy p.2 (bK p 0 p.1)
 simp only[h,List.length_take]
 have:=kE p p.1 0
 omega
theorem uf {p:ap} (h:ae p=0):ae (iw p)=0:=by
 obtain⟨a,b,c⟩:=cu h
 exact A9 (Nat.le_trans (yj p) a) b λr d=>bZ c r (zl p r d)
theorem zf {p:ap} {x:Nat->Int} (c:ae p=0) (b:dw x=0) {i:Int} (e:aD (aX x) 0 p.1=i) (f:0<=i):gd p i=true:=by
 have a:fw [p]:=λq d=>by rw[List.mem_singleton] at d;subst d;exact c
 unfold gd
 rw[List.any_eq_true]
 refine⟨_,rS a b,?_⟩
 rw[beq_iff_eq]
 unfold kP
 rw[oM (su _),t5 a b (by simp),gB c b,e,cZ,if_neg (by omega)]
theorem rj {p:ap} (x:Nat->Int) (d:Int):∀ (l:List ai) (k:Nat),(∀ i,aD (aX x) k l=i->0<=i->gd p i=true)->dt x d (bK p k l)=dt x d l
 | [],_,_=>rfl
 | r :: s,k,h=>by
  unfold bK
  by_cases a:aX x r=true
  ·have:=h k (by rw[aD,if_pos a]) (by omega)
   rw[if_pos this,dt,if_pos a,dt,if_pos a]
  ·have b:=rj (p:=p) x d s (k+1) λi c f=>h i (by rw[aD,if_neg a];exact c) f
   have e:dt x d (r :: s)=dt x d s:=by rw[dt,if_neg a]
   rw[e,<-b]
   split
   ·rw[dt,if_neg a]
   ·rfl
theorem Cv {p:ap} {x:Nat->Int} (a:ae p=0) (b:dw x=0):vP (iw p) x=vP p x:=by
 rw[oA (uf a) b,oA a b]
 show dt x p.2 (cA p.2 (bK p 0 p.1))=_
 rw[oN]
 exact rj x p.2 p.1 0 λi c d=>zf a b c d
end Go.Proofs.YtnpdhopjpjickaaGreatDoor
end
section
set_option linter.all false
namespace Go.Proofs.YtnpdhopjpjickaaGreatDoor
def eU (a:Bool) (p q:ap):Int:=if bQ [p,q]=0 then ae (il a p q) else bQ [p,q]
def eI (a:Bool) (p q:ap):ap:=if eU a p q=0 then il a p q else ([],0)
theorem qu {p q:ap} (h:bQ [p,q]=0):ae p=0/\ae q=0:=by
 have:=j6.1 h
 exact⟨this p (by simp),this q (by simp)⟩
end Go.Proofs.YtnpdhopjpjickaaGreatDoor
end
section
set_option linter.all false
set_option maxRecDepth 100000
namespace Go.Proofs.YtnpdhopjpjickaaGreatDoor
open Go.RowKit Go.Maps
def B3 (B:Nat) (w:World) (b o:Nat) (p:ap):Prop:=∃ a,w.cell? ⟨b,o,none⟩=some a/\w.cell? ⟨b,o+1,none⟩=some (.int .i64 p.2)/\wf p.2/\be B w a p.1
def j5 (B:Nat) (w:World) (v:Value) (ps:List ap):Prop:=
 ∃ a c,v=.slice a ps.length c/\ps.length<=c/\c<=maxLen/\∀ (i:Nat) p,ps[i]?=some p->∃ b o,a=some ⟨b,o,none⟩/\b<B/\B3 B w b (o+i*2) p
theorem B3.later {B a:Nat} {w w':World} {b o:Nat} {p:ap} (h:B3 B w b o p) (c:Below a w w') (d:B<=a) (k:b<B):B3 B w' b o p:=by
 obtain⟨e,f,g,i,j⟩:=h
 exact⟨e,(c.cell (p:=⟨b,o,none⟩) (by show b<a;omega)).trans f,(c.cell (p:=⟨b,o+1,none⟩) (by show b<a;omega)).trans g,i,j.later c d⟩
theorem j5.later {B f:Nat} {w w':World} {v:Value} {ps:List ap} (h:j5 B w v ps) (j:Below f w w') (l:B<=f):j5 B w' v ps:=by
 obtain⟨a,d,m,n,p,q⟩:=h
 refine⟨a,d,m,n,p,λi c r=>?_⟩
 obtain⟨b,o,e,g,k⟩:=q i c r
 exact⟨b,o,e,g,k.later j l g⟩
theorem B3.pol {B:Nat} {w:World} {b o:Nat} {p:ap} (h:B3 B w b o p):∃ a n c,w.cell? ⟨b,o,none⟩=some (.slice a n c)/\w.cell? ⟨b,o+1,none⟩=some (.int .i64 p.2)/\bG B w (.agg #[.slice a n c,.int .i64 p.2]) p:=by
 obtain⟨j,d,e,f,g⟩:=h
 obtain⟨a,c,rfl,i⟩:=g
 exact⟨a,_,c,d,e,_,rfl,f,a,c,rfl,i⟩
theorem vD (ps:List ap) (k:Nat) (p:ap) (h:ps[k]?=some p):bQ (ps.drop k)=if ae p=0 then bQ (ps.drop (k+1)) else ae p:=by
 obtain⟨a,rfl⟩:=List.getElem?_eq_some_iff.1 h
 rw[List.drop_eq_getElem_cons a]
 rfl
end Go.Proofs.YtnpdhopjpjickaaGreatDoor
end
section
set_option linter.all false
namespace Go.Proofs.YtnpdhopjpjickaaGreatDoor
def Dp (f:Int) (cs:List aB) (n:Int):Bool:=decide (n=0)||cs.any λc=>decide (c.1=f)&&(decide (c.2.2=n)||decide (c.2.2+1=n)&&(decide (c.2.1=1)||decide (c.2.1=2)))
theorem D6 {f:Int} {cs:List aB} {n:Int}:Dp f cs n=true ↔ n=0\/∃ c∈cs,c.1=f/\(c.2.2=n\/c.2.2+1=n/\(c.2.1=1\/c.2.1=2)):=by
 unfold Dp
 simp only[Bool.or_eq_true,decide_eq_true_eq,List.any_eq_true,Bool.and_eq_true]
theorem lM {l:List ap} {f n:Int}:n∈cD l f ↔ Dp f (bj l) n=true/\n<=aF f:=by
 rw[iS,D6]
theorem qx (n:Int):∀ l:List Int,n ∉ l->(qz n l).length=l.length+1
 | [],_=>rfl
 | m :: r,h=>by
  have b:n≠m:=λe=>h (by simp[e])
  have a:n ∉ r:=λe=>h (by simp[e])
  unfold qz
  split
  ·rfl
  ·rw[List.length_cons,qx n r a,List.length_cons]
theorem oU:∀ l:List Int,l.Nodup->(qi l).length=l.length
 | [],_=>rfl
 | n :: l,h=>by
  have a:=List.nodup_cons.1 h
  show (qz n (qi l)).length=_
  rw[qx n _ (λe=>a.1 ((k9 n l).1 e)),oU l a.2,List.length_cons]
def yX (N:Nat):List Int:=(List.range N).map λi:Nat=>(i:Int)
theorem ql (N:Nat):fO (yX N):=by
 unfold yX fO
 rw[List.pairwise_map]
 exact List.pairwise_lt_range.imp λh=>by omega
theorem wJ {N:Nat} {x:Int} (a:0<=x) (b:x<N):x∈yX N:=List.mem_map.2 ⟨x.toNat,List.mem_range.2 (by omega),by omega⟩
theorem Ao {l:List Int} (h:l.Nodup) {N:Nat} (a:∀ x∈l,0<=x/\x<N):l.length<=N:=by
 have:=nF (qi l) (yX N) (kq l) (ql N) λx b=>wJ (a x ((k9 x l).1 b)).1 (a x ((k9 x l).1 b)).2
 rw[oU l h] at this
 simpa [yX] using this
theorem zn {l:List Int} (h:fO l) {N:Nat} (a:∀ x∈l,0<=x/\x<N):l.length<=N:=by
 have:=nF l (yX N) h (ql N) λx b=>wJ (a x b).1 (a x b).2
 simpa [yX] using this
theorem xi (xs:List Int) (h:xs.Nodup):fO (xs.mergeSort λx y=>decide (x<=y)):=by
 have d:(xs.mergeSort λx y=>decide (x<=y)).Pairwise λa b=>decide (a<=b)=true:=List.pairwise_mergeSort (λa b c=>by simp only[decide_eq_true_eq];omega) (λa b=>by simp only[Bool.or_eq_true,decide_eq_true_eq];omega) xs
 have e:(xs.mergeSort λx y=>decide (x<=y)).Nodup:=(List.mergeSort_perm xs _).nodup_iff.2 h
 exact (d.and e).imp λ⟨a,b⟩=>by
  rw[decide_eq_true_eq] at a
  omega
theorem EF {l:List ap} {f:Int} {xs:List Int} (h:xs.Nodup) (a:∀ n,n∈xs ↔ Dp f (bj l) n=true/\n<=aF f):(xs.mergeSort λx y=>decide (x<=y))=cD l f:=
 nU _ _ (xi xs h) (iI l f) λx=>by rw[List.mem_mergeSort,a,lM]
theorem Cq {l:List ap} (h:fw l) (f:Int):(cD l f).length<=65536:=zn (iI l f) λx a=>by
 have b:=jY h a
 have c:aF f<=65535:=by
  unfold aF
  split
  ·omega
  ·split<;>omega
 omega
def Eq (L:List Int) (i:Nat):Int:=L.getD (i % L.length) 0
end Go.Proofs.YtnpdhopjpjickaaGreatDoor
end
section
set_option linter.all false
set_option maxRecDepth 100000
namespace Go.Proofs.YtnpdhopjpjickaaGreatDoor
open Go.RowKit Go.Maps
def xh (D:DataW Unit) (g:Int->Bool):Prop:=∀ n,wf n->D.atKey (.int .i64 n) (.lit (.bool false))=.lit (.bool (g n))
theorem E6 (n:Int):WideAt.IsKeyLit (.int .i64 n):=by simp[WideAt.IsKeyLit]
theorem xh.put {D:DataW Unit} {g:Int->Bool} (h:xh D g) (c:IsMap D) (a:Int) (b:Bool):xh (D.put (.int .i64 a) (.lit (.bool b))) (λn=>if n=a then b else g n):=by
 intro n d
 by_cases e:n=a
 ·subst e
  rw[Maps.atKey_put_same c (E6 n)]
  simp
 ·rw[Maps.atKey_put_other (by simpa using e),h n d]
  simp[e]
theorem xh.congr {D:DataW Unit} {g a:Int->Bool} (h:xh D g) (c:∀ n,wf n->g n=a n):xh D a:=λn b=>by rw[h n b,c n b]
def Bz (w wr:World) (M:Nat) (f:Int) (a:List aB):Prop:=Below w.heap.size w wr/\∃ D,wr.ownsMap Tryz.prog 3 Er M (2*a.length+1) D/\xh D (Dp f a)
theorem Bz.later {w wr wr':World} {M:Nat} {f:Int} {a:List aB} (h:Bz w wr M f a) (b:Below wr.heap.size wr wr'):Bz w wr' M f a:=by
 obtain⟨c,D,d,e⟩:=h
 refine⟨Below.thenOf c b c.size,D,?_,e⟩
 exact d.kept (row:=none) ⟨b.os,b.tape,b.output,b.size,λk g _=>b.block k g⟩ (by simp)
theorem sd (ps:List ap) (i:Nat) (p:ap) (h:ps[i]?=some p):bj (ps.take (i+1))=bj (ps.take i)++oz p:=by
 rw[List.take_succ,h]
 simp[bj]
theorem qA (a:List ai) (i:Nat) (r:ai) (h:a[i]?=some r):(a.take (i+1)).flatMap (·.1)=(a.take i).flatMap (·.1)++r.1:=by
 rw[List.take_succ,h]
 simp
theorem yN (cs:List aB) (i:Nat) (c:aB) (h:cs[i]?=some c):cs.take (i+1)=cs.take i++[c]:=by
 rw[List.take_succ,h]
 rfl
theorem j7:∀ (a:List ai),(∀ r∈a,aR r=0)->(a.flatMap (·.1)).length<=a.length*10
 | [],_=>by simp
 | r :: s,h=>by
  have c:=(db (h r (by simp))).1
  have e:=j7 s λd b=>h d (by simp[b])
  rw[List.flatMap_cons,List.length_append,List.length_cons]
  omega
theorem jH:∀ (ps:List ap),fw ps->(bj ps).length<=ps.length*1200
 | [],_=>by simp[bj]
 | p :: s,h=>by
  obtain⟨e,_,b⟩:=cu (h p (by simp))
  have a:=jH s λd c=>h d (by simp[c])
  have f:=j7 p.1 (bZ b)
  unfold bj at a |-
  rw[List.flatMap_cons,List.length_append,List.length_cons]
  unfold oz at a |-
  omega
end Go.Proofs.YtnpdhopjpjickaaGreatDoor
end
section
set_option linter.all false
set_option maxRecDepth 100000
namespace Go.Proofs.YtnpdhopjpjickaaGreatDoor
open Go.RowKit Go.Maps
theorem fG {w w':World} (a:Below w.heap.size w w') (row:Option Nat):w.grownBy w' row:=⟨a.os,a.tape,a.output,a.size,λk b _=>a.block k b⟩
section
variable {P:Program} {k:TypeId} {R:Value->Option (DataW Unit × List MemPlace)} {w w':World} {b r n:Nat} {D:DataW Unit} {left:Lit->Bool} {cnt:Nat}
end
theorem pX {P:Program} {t e:TypeId} {i:TypeInfo} {z:Value} {b f:Nat} {B:Array Oper} {q:List Oper} {o:Oper} {a:Act} {Q:Exit->Act->World->Prop} (w:World) (D:o.guard=none) (s x:Operand)
  (kf:o.op=.call { callee:=.builtin .append,args:=#[s,x],argTypes:=#[t,t] })
  (N:P.underlying t=some (.slice e)) (O:P.info? e=some i) (R:i.zero=some z) (y:i.size=b) (E:i.bytes=f) (F:z.cells.size=b) (G:0<b)
  (d:Nat) (v:Value) (n:Nat) (H:List Value) (S:a.eval s=v) (g m:Nat) (c:List Value) (T:a.eval x=.slice (some ⟨g,0,none⟩) m m)
  (W:World) {I:TypeId} (U:w=W.alloc (.cells c.toArray I)) (V:g=W.heap.size) (p:World) (K:Below p.heap.size p W) (r:p.ownsRow d e b v n H) (X:c.length=m*b) (Y:∀ u∈c,u.oneCell'=true) (Z:n+m<=maxLen) (hn:(n+m)*f<=140737488355328) (l:d<=p.heap.size)
  (h:∀ C w',Hid (w'.ownsRow d e b C (n+m) (H++c))->Below d p w'->Hid (p.grownBy w' v.ownBlock)->wpList P B Q q (a.put o.dst C) w'):wpList P B Q (o :: q) a w:=by
 subst U
 subst V
 have A:Below p.heap.size p (W.alloc (.cells c.toArray I)):=K.alloc K.size _
 obtain⟨C,L,r1,r2,r3,_⟩:=run_append_own (P:=P) (W.alloc (.cells c.toArray I)) d t o.type e i z b f N O R y E F G v n H (au r A) ⟨W.heap.size,0,none⟩ m m c X (λj u J=>by rw[dL,Nat.zero_add];exact ab (af W _) j (by simpa using J)) Y Z hn (Nat.le_trans l A.size)
 have M:p.grownBy L v.ownBlock:=World.grownBy.andThen (fG A v.ownBlock) r3 λj J=>.inr J
 exact Lib.wpList_append_run _ D s x _ _ kf _ _ S T _ _ r1 (h C L r2 ((Below.refl _ _).grown M l λk hk=>eS r k hk) M)
def uk (left:Lit->Bool) (n:Int):Bool:=left (.int .i64 n)
def qy (D:DataW Unit) (g:Int->Bool) (m:Int) (left:Lit->Bool) (xs:List Int):Prop:=xs.Nodup/\∀ n,n∈xs ↔ Maps.has D (.int .i64 n)=true/\uk left n=false/\(wf n/\g n=true)/\n<=m
theorem qS (left:Lit->Bool) (x n:Int):uk (λz=>left z&&!z.sameKey (.int .i64 x)) n=(uk left n&&!decide (n=x)):=by
 unfold uk
 by_cases h:n=x
 ·subst h
  simp[Lit.sameKey]
 ·simp[Lit.sameKey,h]
theorem qy.start {D:DataW Unit} {g:Int->Bool} {m:Int}:qy D g m (Maps.has D) []:=by
 refine⟨List.nodup_nil,λn=>?_⟩
 unfold uk
 constructor
 ·intro h;cases h
 ·rintro⟨b,a,_⟩
  rw[b] at a
  cases a
theorem qy.skip {D:DataW Unit} {g:Int->Bool} {m:Int} {left:Lit->Bool} {xs:List Int} (h:qy D g m left xs) {x:Int} (c:¬(g x=true/\x<=m)):qy D g m (λz=>left z&&!z.sameKey (.int .i64 x)) xs:=by
 refine⟨h.1,λn=>?_⟩
 rw[h.2 n,qS]
 by_cases e:n=x
 ·subst e
  constructor
  ·rintro⟨_,_,⟨_,a⟩,b⟩;exact absurd ⟨a,b⟩ c
  ·rintro⟨_,_,⟨_,a⟩,b⟩;exact absurd ⟨a,b⟩ c
 ·simp[e]
theorem qy.take {D:DataW Unit} {g:Int->Bool} {m:Int} {left:Lit->Bool} {xs:List Int} (h:qy D g m left xs) {x:Int} (f:uk left x=true) (i:Maps.has D (.int .i64 x)=true) (j:wf x) (k:g x=true) (l:x<=m):qy D g m (λz=>left z&&!z.sameKey (.int .i64 x)) (xs++[x]):=by
 have c:x ∉ xs:=λo=>by
  have:=((h.2 x).1 o).2.1
  rw[f] at this
  cases this
 refine⟨List.nodup_append.2 ⟨h.1,by simp,λa p b d=>?_⟩,λn=>?_⟩
 ·rw[List.mem_singleton] at d
  subst d
  intro e
  subst e
  exact c p
 ·rw[List.mem_append,List.mem_singleton,h.2 n,qS]
  by_cases e:n=x
  ·subst e
   simp[i,j,k,l]
  ·simp[e]
theorem qy.done {D:DataW Unit} {f:Int} {ps:List ap} {left:Lit->Bool} {xs:List Int} (h:qy D (Dp f (bj ps)) (aF f) left xs) (e:xh D (Dp f (bj ps))) (c:fw ps) (g:∀ i,left i=false):∀ n,n∈xs ↔ Dp f (bj ps) n=true/\n<=aF f:=by
 intro n
 rw[h.2 n]
 constructor
 ·rintro⟨_,_,⟨_,a⟩,b⟩;exact⟨a,b⟩
 ·rintro⟨a,b⟩
  have d:wf n:=by
   have:=jY c (lM.2 ⟨a,b⟩)
   have:=jo f
   exact WalkArith.wf_i64 (by omega)
  refine⟨?_,g _,⟨d,a⟩,b⟩
  cases hh:Maps.has D (.int .i64 n) with
  | true=>rfl
  | false=>
   have:=e n d
   rw[Maps.atKey_of_not_has hh,a] at this
   simp at this
theorem qy.few {D:DataW Unit} {f:Int} {ps:List ap} {left:Lit->Bool} {xs:List Int} (h:qy D (Dp f (bj ps)) (aF f) left xs) (a:fw ps):xs.length<=65536:=by
 refine Ao h.1 λx b=>?_
 obtain⟨_,_,⟨_,c⟩,d⟩:=(h.2 x).1 b
 have:=jY a (lM.2 ⟨c,d⟩)
 have:=jo f
 omega
theorem Dc:∃ i,Tryz.prog.info? 3=some i/\i.zero=some (.int .i64 0)/\i.size=1/\i.bytes=8:=fD (by kernel_rfl)
def oh (l:List Int):List Value:=l.map (.int .i64)
end Go.Proofs.YtnpdhopjpjickaaGreatDoor
end
section
set_option linter.all false
namespace Go.Proofs.YtnpdhopjpjickaaGreatDoor
def nQ (ps:List ap):Nat->Nat
 | 0=>1
 | k+1=>nQ ps k*(cD ps k).length
def pN (ps:List ap) (k:Nat):Nat:=(jt ((mT ps).drop k)).length
theorem uh (ps:List ap) (k:Nat) (a:k<5):(mT ps)[k]?=some (cD ps k):=by
 have:k=0\/k=1\/k=2\/k=3\/k=4:=by omega
 rcases this with rfl | rfl | rfl | rfl | rfl<;>rfl
theorem sL (ps:List ap) (k:Nat) (b:k<5):pN ps k=(cD ps k).length*pN ps (k+1):=by
 unfold pN
 have h:=uh ps k b
 obtain⟨a,e⟩:=List.getElem?_eq_some_iff.1 h
 rw[List.drop_eq_getElem_cons a,e,uH]
theorem yE (ps:List ap):pN ps 5=1:=rfl
theorem zN (ps:List ap) (k:Int):0<(cD ps k).length:=List.length_pos_iff.2 (CU ps k)
theorem tL (ps:List ap):∀ m k:Nat,k+m=5->0<pN ps k
 | 0,k,h=>by
  obtain rfl:k=5:=by omega
  exact Nat.one_pos
 | m+1,k,h=>by
  rw[sL ps k (by omega)]
  exact Nat.mul_pos (zN ps k) (tL ps m (k+1) (by omega))
theorem pI (ps:List ap):∀ k,k<=5->nQ ps k*pN ps k=(fy ps).length
 | 0,_=>by
  show 1*pN ps 0=_
  rw[Nat.one_mul]
  rfl
 | k+1,h=>by
  rw[<-pI ps k (by omega),sL ps k (by omega),nQ,Nat.mul_assoc]
theorem Dl (ps:List ap) (k:Nat) (a:k<=5):nQ ps k<=(fy ps).length:=by
 rw[<-pI ps k a]
 exact Nat.le_mul_of_pos_right _ (tL ps (5-k) k (by omega))
theorem AL (ps:List ap):nQ ps 5=(fy ps).length:=by
 rw[<-pI ps 5 (by omega),yE,Nat.mul_one]
def pt (ps:List ap) (i j:Nat):Int:=Eq (cD ps j) (i / pN ps (j+1))
def bV (l:List (List Int)):List Value:=l.flatMap λx=>x.map (.int .i64)
theorem pJ (l m:List (List Int)):bV (l++m)=bV l++bV m:=by unfold bV;exact List.flatMap_append
end Go.Proofs.YtnpdhopjpjickaaGreatDoor
end
section
set_option linter.all false
namespace Go.Proofs.YtnpdhopjpjickaaGreatDoor
open Go.RowKit Go.Maps
theorem bB.mono {B f:Nat} {w:World} {v:Value} {cs:List aB} (h:bB B w v cs) (p:B<=f):bB f w v cs:=by
 obtain⟨a,d,g,j,l,m⟩:=h
 refine⟨a,d,g,j,l,λi c n=>?_⟩
 obtain⟨b,o,e,q,k⟩:=m i c n
 exact⟨b,o,e,by omega,k⟩
theorem be.mono {B f:Nat} {w:World} {v:Value} {g:List ai} (h:be B w v g) (j:B<=f):be f w v g:=by
 obtain⟨a,d,k,l,m,n⟩:=h
 refine⟨a,d,k,l,m,λi c p=>?_⟩
 obtain⟨b,o,e,x,q,r,s,t,u⟩:=n i c p
 exact⟨b,o,e,by omega,q,r,s,t,u.mono j⟩
theorem CK {B:Nat} {w:World} {rv sv:Value} {p q:ap} (e:B<=w.heap.size) (g:be B w rv p.1) (c:wf p.2) (h:be B w sv q.1) (d:wf q.2) (T:TypeId):
  j5 (w.heap.size+1) (w.alloc (.cells #[rv,.int .i64 p.2,sv,.int .i64 q.2] T)) (.slice (some ⟨w.heap.size,0,none⟩) 2 2) [p,q]:=by
 have f:Below w.heap.size w (w.alloc (.cells #[rv,.int .i64 p.2,sv,.int .i64 q.2] T)):=(Below.refl _ _).alloc (Nat.le_refl _) _
 have b:=af w (.cells #[rv,.int .i64 p.2,sv,.int .i64 q.2] T)
 refine⟨some ⟨w.heap.size,0,none⟩,2,rfl,Nat.le_refl _,by rw[ag];omega,λi r a=>⟨w.heap.size,0,rfl,by omega,?_⟩⟩
 match i,a with
 | 0,a=>
  simp at a
  subst a
  exact⟨rv,ab b 0 rfl,ab b 1 rfl,c,(g.later f e).mono (by omega)⟩
 | 1,a=>
  simp at a
  subst a
  exact⟨sv,ab b 2 rfl,ab b 3 rfl,d,(h.later f e).mono (by omega)⟩
 | i+2,a=>simp at a
theorem BT {B:Nat} {w:World} {rv:Value} {p:ap} (d:B<=w.heap.size) (e:be B w rv p.1) (b:wf p.2) (T:TypeId):
  j5 (w.heap.size+1) (w.alloc (.cells #[rv,.int .i64 p.2] T)) (.slice (some ⟨w.heap.size,0,none⟩) 1 1) [p]:=by
 have f:Below w.heap.size w (w.alloc (.cells #[rv,.int .i64 p.2] T)):=(Below.refl _ _).alloc (Nat.le_refl _) _
 have c:=af w (.cells #[rv,.int .i64 p.2] T)
 refine⟨some ⟨w.heap.size,0,none⟩,1,rfl,Nat.le_refl _,by rw[ag];omega,λi r a=>⟨w.heap.size,0,rfl,by omega,?_⟩⟩
 match i,a with
 | 0,a=>
  simp at a
  subst a
  exact⟨rv,ab c 0 rfl,ab c 1 rfl,b,(e.later f d).mono (by omega)⟩
 | i+1,a=>simp at a
end Go.Proofs.YtnpdhopjpjickaaGreatDoor
end
section
set_option linter.all false
set_option maxRecDepth 100000
namespace Go.Proofs.YtnpdhopjpjickaaGreatDoor
open Go.RowKit Go.Maps
theorem lS:∃ i,Tryz.prog.info? 5=some i/\i.zero=some (.int .u8 0)/\i.size=1/\i.bytes=1:=fD (by kernel_rfl)
theorem A3:∃ i,Tryz.prog.info? 235=some i/\i.size=2:=by
 have h:(Tryz.prog.info? 235).map (·.size)=some 2:=by kernel_rfl
 obtain⟨j,a,b⟩:=Option.map_eq_some_iff.1 h
 exact⟨j,a,b⟩
abbrev ot (B b:Nat) (bs:List Value) (w:World):Prop:=Lib.BuilderAt 235 5 B b (.pointer (some ⟨b,0,none⟩)) bs w
abbrev cC (B b:Nat) (bs:List Value) (w:World):Prop:=Lib.IsBuilder 235 5 B b bs w
def fV (b:Nat) (w w':World):Prop:=w.heap.size<=w'.heap.size/\∀ k o,k≠b->w.heap[k]?=some o->(∀ a c,o≠.cells a 5 c)->w'.heap[k]?=some o
theorem fV.refl (b:Nat) (w:World):fV b w w:=⟨Nat.le_refl _,λ_ _ _ h _=>h⟩
theorem fV.trans {b:Nat} {w w' a:World} (h:fV b w w') (k:fV b w' a):fV b w a:=⟨Nat.le_trans h.1 k.1,λj o c e d=>k.2 j o c (h.2 j o c e d) d⟩
theorem fV.of_below {b:Nat} {w w':World} (h:Below w.heap.size w w'):fV b w w':=⟨h.size,λk o _ a _=>(h.block k (lt_of_block a)).trans a⟩
theorem ot.later {T e:TypeId} {B b:Nat} {p:Value} {bs:List Value} {w w':World} (h:Lib.BuilderAt T e B b p bs w) (f:Below w.heap.size w w'):Lib.BuilderAt T e B b p bs w':=by
 obtain⟨g,v,a,c,d⟩:=h
 exact⟨g,v,(f.block b (lt_of_block a)).trans a,au c f,d⟩
theorem cC.later {B b:Nat} {bs:List Value} {w w':World} (h:cC B b bs w) (a:Below w.heap.size w w'):cC B b bs w':=by
 rcases h with h | h
 ·exact .inl (ot.later h a)
 ·exact .inr (ot.later h a)
set_option maxHeartbeats 1000000 in
theorem yu (b:Nat) (w:World) (d:w.cell? ⟨b,0,none⟩=some (.pointer (some ⟨b,0,none⟩))):
  Calls Tryz.prog 223 #[.pointer (some ⟨b,0,none⟩)] w λe a=>e=.returned (.tuple #[])/\a=w:=by
 obtain⟨j,c,_⟩:=A3
 go_enter Tryz.func223,Tryz.ntmps223
 go_wp2
 rw[Lib.run_neq_ptr_same w _ Tryz.underlying233 c]
 go_wp2
 go_end0
 exact⟨rfl,rfl⟩
set_option maxHeartbeats 1000000 in
theorem pV (b:Nat) (w:World) (h:w.cell? ⟨b,0,none⟩=some (.pointer none)) (a:w.shape? b=some (235,2)) (f:w.frozen? ⟨b,0,none⟩=false):
  Calls Tryz.prog 223 #[.pointer (some ⟨b,0,none⟩)] w λe g=>e=.returned (.tuple #[])/\g=w.setCell ⟨b,0,none⟩ (.pointer (some ⟨b,0,none⟩)):=by
 obtain⟨j,d,c⟩:=A3
 go_enter Tryz.func223,Tryz.ntmps223
 go_wp2
 rw[Lib.run_to_unsafe w ⟨b,0,none⟩ Tryz.underlying233 Tryz.underlying287 d (by rw[c];decide) a (Nat.zero_lt_succ 1)]
 simp only[Result.andThen]
 rw[Oper.upon_value]
 go_wp2
 rw[run_callFunc_extern Tryz.func236 (by kernel_rfl) (by kernel_rfl) (by kernel_rfl) (e:=Extern.AbiNoEscape.same) (by kernel_rfl)]
 rw[Lib.run_noEscape]
 simp only[Result.andThen]
 rw[Oper.upon_value]
 go_wp2
 rw[Lib.run_from_unsafe w ⟨b,0,none⟩ Tryz.underlying287 Tryz.underlying233 d a (by kernel_rfl)]
 simp only[Result.andThen]
 rw[Oper.upon_value]
 go_wp2
 go_end0
 exact⟨rfl,rfl⟩
theorem tQ (B b:Nat) (bs:List Value) (w:World) (h:cC B b bs w):
  Calls Tryz.prog 223 #[.pointer (some ⟨b,0,none⟩)] w λe a=>e=.returned (.tuple #[])/\ot B b bs a/\Below B w a/\fV b w a:=by
 rcases h with h | h
 ·refine (pV b w h.cell0 h.shape h.frozen0).mono ?_
  rintro e a ⟨rfl,rfl⟩
  exact⟨rfl,h.used _,(Below.refl B w).setCell (p:=⟨b,0,none⟩) h.1 _,by simp,λk o c d _=>(Below.heap_setCell _ _ _ _ (by show k≠b;exact c)).trans d⟩
 ·refine (yu b w h.cell0).mono ?_
  rintro e a ⟨rfl,rfl⟩
  exact⟨rfl,h,Below.refl B _,fV.refl _ _⟩
set_option maxHeartbeats 2000000 in
theorem C4 (B b:Nat) (bs:List Value) (c:Int) (w:World) (h:cC B b bs w) (I:bs.length+1<=140737488355328) (M:B<=w.heap.size):
  Calls Tryz.prog 221 #[.pointer (some ⟨b,0,none⟩),.int .u8 c] w λe y=>e=.returned .nilIface/\ot B b (bs++[.int .u8 c]) y/\Below B w y/\fV b w y:=by
 obtain⟨N,O,z,A,C⟩:=lS
 go_enter Tryz.func221,Tryz.ntmps221
 go_wp2_with fail
 go_at_call 223
 refine Calls.mono (tQ B b bs _ h) ?_
 rintro e s ⟨rfl,P,i,D⟩
 obtain⟨J,v,l,d,E⟩:=P
 have S:s.cell? ⟨b,0,none⟩=some (.pointer (some ⟨b,0,none⟩)):=by rw[Lib.cell_of_heap l];rfl
 have K:s.cell? ⟨b,1,none⟩=some v:=by rw[Lib.cell_of_heap l];rfl
 go_wp2_with (at_builtin;refine wpList_append_own _ rfl _ _ 23 rfl B 5 N (.int .u8 0) 1 1 Tryz.underlying23 O z A C rfl (by decide) _ _ _ rfl (d.alloc _) ⟨s.heap.size,0,none⟩ 1 1 [.int .u8 c] rfl rfl ?K ?c2 ?c3 ?c4 ?c5 ?_)
 case K=>
  intro j u t
  match j,t with
  | 0,t=>simp at t;subst t;simp[Addr.add]
 case c2=>intro u L;simp at L;subst L;rfl
 case c3=>rw[ag];omega
 case c4=>omega
 case c5=>have:=i.size;simp;omega
 intro Q x f a _
 have F:b<s.heap.size:=lt_of_block l
 have m:x.heap[b]?=some (.cells #[.pointer (some ⟨b,0,none⟩),v] 235 (0,0)):=by
  rw[a.block b (by simp;omega) (λe=>E e.symm),Below.heap_alloc _ _ _ F]
  exact l
 have U:x.cell? ⟨b,0,none⟩=some (.pointer (some ⟨b,0,none⟩)):=by rw[Lib.cell_of_heap m];rfl
 have V:x.cell? ⟨b,1,none⟩=some v:=by rw[Lib.cell_of_heap m];rfl
 have W:x.frozen? ⟨b,1,none⟩=false:=Lib.frozen_of_heap m 1
 obtain⟨g,n,rfl⟩:∃ g n,Q=.slice (some ⟨g,0,none⟩) (bs.length+1) n:=by
  obtain⟨g,n,h,_⟩:=ng f (by omega)
  exact⟨g,n,h⟩
 go_wp2
 go_ret
 refine⟨rfl,?_,?_,D.trans ⟨by have:=a.size;simp at this |-;omega,λk o G q R=>?_⟩⟩
 rotate_left 2
 ·rw[Below.heap_setCell _ _ _ _ (by show k≠b;exact G),a.block k (by have:=lt_of_block q;simp;omega) (λe=>?_),Below.heap_alloc _ _ _ (lt_of_block q)]
  ·exact q
  ·obtain⟨H,r⟩:=dh d k e.symm
   rw[r] at q
   exact R H (0,0) (Option.some.inj q).symm
 ·exact Lib.BuilderAt.put (T:=235) (e:=5) J m (bs':=bs++[.int .u8 c]) (by simpa using f) (by decide)
 ·exact ((i.alloc (by have:=i.size;omega) _).grown a (by have:=i.size;simp;omega) (λk G=>(d.lt k G).1)).setCell (p:=⟨b,1,none⟩) J _
set_option maxHeartbeats 2000000 in
theorem yx (B b:Nat) (bs:List Value) (s:ByteArray) (w:World) (h:cC B b bs w) (D:bs.length+s.size<=140737488355328) (F:B<=w.heap.size):
  Calls Tryz.prog 195 #[.pointer (some ⟨b,0,none⟩),.string s] w λe n=>e=.returned (.tuple #[.int .i64 s.size,.nilIface])/\ot B b (bs++Lib.strCells s) n/\Below B w n/\fV b w n:=by
 obtain⟨G,H,q,r,t⟩:=lS
 go_enter Tryz.func195,Tryz.ntmps195
 go_wp2_with fail
 go_at_call 223
 refine Calls.mono (tQ B b bs _ h) ?_
 rintro e u ⟨rfl,I,i,x⟩
 obtain⟨E,v,f,c,y⟩:=I
 have L:u.cell? ⟨b,0,none⟩=some (.pointer (some ⟨b,0,none⟩)):=by rw[Lib.cell_of_heap f];rfl
 have M:u.cell? ⟨b,1,none⟩=some v:=by rw[Lib.cell_of_heap f];rfl
 go_wp2_with (at_builtin;refine Lib.wpList_append_own_string _ rfl _ _ 23 9 rfl B 5 G Tryz.underlying23 Tryz.underlying9 H q r t _ _ _ rfl c s rfl ?c3 ?c4 ?c5 ?_)
 case c3=>rw[ag];omega
 case c4=>omega
 case c5=>have:=i.size;omega
 intro N l d a _
 have z:b<u.heap.size:=lt_of_block f
 have g:l.heap[b]?=some (.cells #[.pointer (some ⟨b,0,none⟩),v] 235 (0,0)):=by
  rw[a.block b z (λe=>y e.symm)]
  exact f
 have O:l.cell? ⟨b,0,none⟩=some (.pointer (some ⟨b,0,none⟩)):=by rw[Lib.cell_of_heap g];rfl
 have P:l.cell? ⟨b,1,none⟩=some v:=by rw[Lib.cell_of_heap g];rfl
 have Q:l.frozen? ⟨b,1,none⟩=false:=Lib.frozen_of_heap g 1
 obtain⟨R,S,J,rfl⟩:=tp d
 go_wp2
 go_ret2
 refine⟨rfl,?_,?_,x.trans ⟨by have:=a.size;simp;omega,λk o A m K=>?_⟩⟩
 rotate_left 2
 ·rw[Below.heap_setCell _ _ _ _ (by show k≠b;exact A),a.block k (lt_of_block m) (λe=>?_)]
  ·exact m
  ·obtain⟨C,j⟩:=dh c k e.symm
   rw[j] at m
   exact K C (0,0) (Option.some.inj m).symm
 ·exact Lib.BuilderAt.put (T:=235) (e:=5) E g (bs':=bs++Lib.strCells s) (by simpa [Lib.strCells_length] using d) (by decide)
 ·exact (i.grown a (by have:=i.size;omega) (λk A=>(c.lt k A).1)).setCell (p:=⟨b,1,none⟩) E _
end Go.Proofs.YtnpdhopjpjickaaGreatDoor
end
