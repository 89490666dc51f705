/- Joined: Judged Cmp0 InsC CatC. -/
import Derived.Test.YtnpdhopjpjickaaGreatDoorWj06
import Derived.Test.YtnpdhopjpjickaaGreatDoorWj04
import Derived.Test.YtnpdhopjpjickaaGreatDoorWj01
import Derived.Test.YtnpdhopjpjickaaGreatDoorWj03
import Derived.Lib.AppendZerosOnto
import Derived.Lib.AppendZeros
section
set_option linter.all false
namespace Go.Proofs.YtnpdhopjpjickaaGreatDoor
open Go.RowKit Go.Maps
end Go.Proofs.YtnpdhopjpjickaaGreatDoor
end
section
set_option linter.all false
namespace Go.Proofs.YtnpdhopjpjickaaGreatDoor
def lN (c:aB) (left:Int):bS:=if c.2.1=1 then (2,c.2.2,0,left) else if c.2.1=2 then (2,c.2.2,left,0) else if c.2.1=3 then (3,c.2.2,0,left) else (3,c.2.2,left,0)
def cQ:List aB->List bS
 | []=>[]
 | c :: r=>(1,c.1,0,0) :: lN c (2*(r.length:Int)+1) :: cQ r
def iD (r:ai):List bS:=cQ r.1++[(4,r.2,0,0)]
def dW (a:List ai):List bS:=a.flatMap iD
def cO (p:ap):List bS:=dW p.1++[(4,p.2,0,0)]
theorem fZ:∀ a:List aB,(cQ a).length=2*a.length
 | []=>rfl
 | c :: r=>by rw[cQ];simp[fZ r];omega
theorem oP (r:ai):(iD r).length=2*r.1.length+1:=by rw[iD];simp[fZ]
theorem lE (r:ai) (s:List ai):dW (r :: s)=iD r++dW s:=by simp[dW]
theorem D9 (p:ap):cO p≠[]:=by unfold cO;simp
theorem nh:∀ (l:List bS) (c:bS),eD (l++[c])=c.1
 | [],c=>rfl
 | [d],c=>rfl
 | d :: e :: r,c=>by
  show eD (d :: e :: (r++[c]))=c.1
  rw[eD]
  exact nh (e :: r) c
theorem qa {v n:Int} (a:0<=v) (b:v<=4):cL (4,v,0,0) n=0:=by
 simp[cL]
 omega
theorem yO {v n:Int} (a:0<=v) (b:v<5):cL (1,v,0,0) n=0:=by
 simp[cL]
 omega
theorem jz {k v b c n:Int} (a:k=2\/k=3) (f:0<=v) (g:v<=65535) (h:0<=b) (d:b<n) (i:0<=c) (e:c<n):cL (k,v,b,c) n=0:=by
 unfold cL
 simp only[]
 rw[if_neg (by omega),if_pos a,if_neg (by omega),if_neg (by omega)]
theorem zp {c:aB} {left n:Int} (e:aW c=0) (a:0<=left) (b:left<n):cL (lN c left) n=0:=by
 obtain⟨_,_,d,f⟩:=eG e
 have:=jo c.1
 unfold lN
 split
 ·exact jz (.inl rfl) d (by omega) (by omega) (by omega) a b
 ·split
  ·exact jz (.inl rfl) d (by omega) a b (by omega) (by omega)
  ·split
   ·exact jz (.inr rfl) d (by omega) (by omega) (by omega) a b
   ·exact jz (.inr rfl) d (by omega) a b (by omega) (by omega)
theorem gD {v:Int} (h:bi v=true):0<=v/\v<=4:=by
 unfold bi at h
 simpa using h
theorem od (v:Int) (b:0<=v/\v<=4) (a:List bS) (e:a≠[]):∀ f:List aB,(∀ c∈f,aW c=0)->bP (cQ f++(4,v,0,0) :: a)=bP a
 | [],_=>by
  show bP ((4,v,0,0) :: a)=_
  rw[bP,if_pos (qa b.1 b.2)]
 | c :: r,h=>by
  have j:0<a.length:=List.length_pos_iff.2 e
  have g:=eG (h c (by simp))
  rw[cQ]
  show bP ((1,c.1,0,0) :: lN c (2*(r.length:Int)+1) :: (cQ r++(4,v,0,0) :: a))=_
  rw[bP,if_pos (yO g.1.1 g.1.2),bP,if_pos (zp (h c (by simp)) (by omega) (by
   rw[List.length_append,fZ,List.length_cons]
   omega))]
  exact od v b a e r λd i=>h d (by simp[i])
theorem nf (a:List bS) (b:a≠[]):∀ c:List ai,(∀ r∈c,aR r=0)->bP (dW c++a)=bP a
 | [],_=>rfl
 | r :: s,h=>by
  obtain⟨_,e,f⟩:=db (h r (by simp))
  rw[lE,iD,List.append_assoc,List.append_assoc]
  show bP (cQ r.1++(4,r.2,0,0) :: (dW s++a))=_
  rw[od r.2 (gD e) _ (by simp[b]) r.1 (eM f)]
  exact nf a b s λd g=>h d (by simp[g])
theorem lH {p:ap} (h:ae p=0):bt (cO p)=if 1500<(cO p).length then 2 else 0:=by
 obtain⟨_,a,c⟩:=cu h
 have a:=gD a
 have f:0<(cO p).length:=List.length_pos_iff.2 (D9 p)
 have d:bP (cO p)=0:=by
  unfold cO
  rw[nf _ (by simp) p.1 (bZ c),bP,if_pos (qa a.1 a.2)]
  rfl
 have e:eD (cO p)=4:=by unfold cO;rw[nh]
 unfold bt
 by_cases b:1500<(cO p).length
 ·rw[if_pos (.inr b),if_pos b]
 ·rw[if_neg (by omega),if_pos d,if_pos e,if_neg b]
def vu (x:Nat->Int) (d:Int):List ai->Int
 | []=>d
 | r :: s=>if aX x r then r.2 else vu x d s
theorem Dk (n:Int) (c:aB) (left:Int):kf n (lN c left)=if kS c.2.1 c.2.2 n then 0 else left.toNat:=by
 unfold lN kS kf
 by_cases b:c.2.1=1
 ·simp only[if_pos b]
  by_cases e:n=c.2.2<;>simp[e]
 ·simp only[if_neg b]
  by_cases d:c.2.1=2
  ·simp only[if_pos d]
   by_cases e:n=c.2.2<;>simp[e]
  ·simp only[if_neg d]
   by_cases f:c.2.1=3
   ·simp only[if_pos f]
    by_cases e:n<c.2.2<;>simp[e]
   ·simp only[if_neg f]
    by_cases e:n<c.2.2
    ·have a:¬c.2.2<=n:=by omega
     simp[e,a]
    ·have a:c.2.2<=n:=by omega
     simp[e,a]
theorem Bb (c:aB) (left:Int):(lN c left).1=2\/(lN c left).1=3:=by
 unfold lN
 split
 ·exact .inl rfl
 ·split
  ·exact .inl rfl
  ·split<;>exact .inr rfl
theorem tW (x:Nat->Int) (v:Int) (a:List bS):∀ (cs:List aB) (n:Int),∃ b,(df x n 0 (cQ cs++(4,v,0,0) :: a)).1=if cs.all (dI x) then v else (df x b 0 a).1
 | [],n=>⟨n,by
  show (df x n 0 ((4,v,0,0) :: a)).1=_
  rw[df,if_neg (by simp),if_neg (by simp)]
  rfl⟩
 | c :: r,n=>by
  rw[cQ]
  show ∃ b,(df x n 0 ((1,c.1,0,0) :: lN c (2*(r.length:Int)+1) :: (cQ r++(4,v,0,0) :: a))).1=_
  have f:=Bb c (2*(r.length:Int)+1)
  rw[df,if_pos rfl,df,if_neg (by omega),if_pos f,Dk]
  by_cases h:dI x c=true
  ·have d:kS c.2.1 c.2.2 (x c.1.toNat)=true:=h
   obtain⟨b,e⟩:=tW x v a r (x c.1.toNat)
   refine⟨b,?_⟩
   simp only[]
   rw[if_pos d]
   show (df x (x c.1.toNat) 0 (cQ r++(4,v,0,0) :: a)).1=_
   rw[e,List.all_cons,h,Bool.true_and]
  ·have d:¬kS c.2.1 c.2.2 (x c.1.toNat)=true:=h
   refine⟨x c.1.toNat,?_⟩
   simp only[]
   rw[if_neg d]
   show (df x (x c.1.toNat) (2*(r.length:Int)+1).toNat (cQ r++(4,v,0,0) :: a)).1=_
   have g:(cQ r++(4,v,0,0) :: a).drop (2*(r.length:Int)+1).toNat=a:=by
    rw[show (2*(r.length:Int)+1).toNat=(cQ r).length+1 by rw[fZ];omega,<-List.drop_drop,List.drop_left]
    rfl
   rw[pk,g,List.all_cons]
   simp[h]
theorem nk (x:Nat->Int) (d:Int):∀ (a:List ai) (n:Int),(df x n 0 (dW a++[(4,d,0,0)])).1=vu x d a
 | [],n=>by
  show (df x n 0 [(4,d,0,0)]).1=_
  rw[df,if_neg (by simp),if_neg (by simp)]
  rfl
 | r :: s,n=>by
  rw[lE,iD,List.append_assoc,List.append_assoc]
  show (df x n 0 (cQ r.1++(4,r.2,0,0) :: (dW s++[(4,d,0,0)]))).1=_
  obtain⟨b,e⟩:=tW x r.2 (dW s++[(4,d,0,0)]) r.1 n
  rw[e,nk x d s b,vu]
  rfl
theorem so (x:Nat->Int) (d:Int) (a:List ai):∀ (c:List ai) (k:Nat),a.drop k=c->vu x d c=(cZ (a,d) (aD (aX x) k c)).1
 | [],k,_=>by simp[vu,aD,cZ]
 | r :: s,k,h=>by
  have e:a[k]?=some r:=by
   have:(a.drop k)[0]?=some r:=by rw[h];rfl
   simpa using this
  rw[vu,aD]
  by_cases b:aX x r=true
  ·rw[if_pos b,if_pos b,cZ,if_neg (by omega)]
   simp[e]
  ·rw[if_neg b,if_neg b]
   refine so x d a s (k+1) ?_
   rw[<-List.drop_drop,h]
   rfl
theorem xg {p:ap} {x:Nat->Int} (a:ae p=0) (b:dw x=0):(df x 0 0 (cO p)).1=(cm p x).1:=by
 rw[gB a b,cO,nk]
 exact so x p.2 p.1 p.1 0 rfl
def du (p:ap):Int:=if ae p=0 then (if 1500<(cO p).length then 2 else 0) else ae p
def fW (p:ap):List bS:=if du p=0 then cO p else []
end Go.Proofs.YtnpdhopjpjickaaGreatDoor
end
section
set_option linter.all false
set_option maxRecDepth 100000
namespace Go.Proofs.YtnpdhopjpjickaaGreatDoor
open Go.RowKit Go.Maps
theorem qK:∃ i,Tryz.prog.info? 122=some i/\i.zero=some (.agg #[.int .i64 0,.int .i64 0,.int .i64 0,.int .i64 0])/\i.size=4/\i.bytes=32:=fD (by kernel_rfl)
def aE (l:List bS):List Value:=l.flatMap λc=>[.int .i64 c.1,.int .i64 c.2.1,.int .i64 c.2.2.1,.int .i64 c.2.2.2]
theorem fR (c:bS) (l:List bS):aE (c :: l)=.int .i64 c.1 :: .int .i64 c.2.1 :: .int .i64 c.2.2.1 :: .int .i64 c.2.2.2 :: aE l:=rfl
theorem gg (l m:List bS):aE (l++m)=aE l++aE m:=by unfold aE;exact List.flatMap_append
theorem dV:∀ l:List bS,(aE l).length=l.length*4
 | []=>rfl
 | c :: r=>by rw[fR];simp[dV r];omega
theorem gG:∀ (l:List bS),∀ u∈aE l,u.oneCell'=true
 | [],u,h=>by cases h
 | c :: r,u,h=>by
  rw[fR] at h
  simp at h
  rcases h with rfl | rfl | rfl | rfl | h
  ·rfl
  ·rfl
  ·rfl
  ·rfl
  ·exact gG r u h
theorem om:∀ (l:List bS) (i:Nat) (c:bS),l[i]?=some c->(aE l)[i*4]?=some (.int .i64 c.1)/\(aE l)[i*4+1]?=some (.int .i64 c.2.1)/\(aE l)[i*4+2]?=some (.int .i64 c.2.2.1)/\(aE l)[i*4+3]?=some (.int .i64 c.2.2.2)
 | [],_,_,h=>by simp at h
 | a :: r,0,c,h=>by
  simp at h
  subst h
  simp[fR]
 | a :: r,i+1,c,h=>by
  have b:=om r i c (by simpa using h)
  rw[fR,show (i+1)*4=i*4+4 by omega]
  exact b
theorem mV {w:World} {b o:Nat}:∀ (l:List bS) (o:Nat),(∀ i c,l[i]?=some c->jT w b (o+i*4) c)->∀ j u,(aE l)[j]?=some u->w.cell? ⟨b,o+j,none⟩=some u
 | [],_,_,j,u,h=>by simp[aE] at h
 | c :: r,o,a,j,u,h=>by
  obtain⟨d,e,f,g,_⟩:=a 0 c rfl
  simp only[Nat.zero_mul,Nat.add_zero] at d e f g
  rw[fR] at h
  match j,h with
  | 0,h=>simp at h;subst h;simpa using d
  | 1,h=>simp at h;subst h;exact e
  | 2,h=>simp at h;subst h;exact f
  | 3,h=>simp at h;subst h;exact g
  | j+4,h=>
   have:=mV (b:=b) (o:=o) r (o+4) (λi c k=>by
    have:=a (i+1) c (by simpa using k)
    rw[show o+(i+1)*4=o+4+i*4 by omega] at this
    exact this) j u (by simpa using h)
   rw[show o+(j+4)=o+4+j by omega]
   exact this
theorem rt {L:Nat} {w:World} {v:Value} {l:List bS} (h:w.ownsRow L 122 4 v l.length (aE l)) (b:∀ c∈l,iB c):d7 w.heap.size w v l:=by
 obtain⟨a,d,rfl,j,k,m⟩:=ax h
 refine⟨a,d,rfl,j,k,λi c e=>?_⟩
 have s:i<l.length:=(List.getElem?_eq_some_iff.1 e).1
 obtain⟨g,rfl,n,f⟩:=m (by omega)
 obtain⟨o,p,q,r⟩:=om l i c e
 refine⟨g,0,rfl,f,?_,?_,?_,?_,b c (List.mem_of_getElem? e)⟩
 all_goals rw[Nat.zero_add]
 ·exact aL h _ _ o
 ·exact aL h _ _ p
 ·exact aL h _ _ q
 ·exact aL h _ _ r
theorem d7.wf {B:Nat} {w:World} {v:Value} {l:List bS} (h:d7 B w v l):∀ c∈l,iB c:=by
 intro c a
 obtain⟨i,b⟩:=List.mem_iff_getElem?.1 a
 obtain⟨_,_,_,_,_,d⟩:=h
 obtain⟨_,_,_,_,k⟩:=d i c b
 exact k.2.2.2.2
end Go.Proofs.YtnpdhopjpjickaaGreatDoor
end
section
set_option linter.all false
set_option maxRecDepth 100000
namespace Go.Proofs.YtnpdhopjpjickaaGreatDoor
open Go.RowKit Go.Maps
set_option maxHeartbeats 4000000 in
theorem AQ (n:Nat) (w:World) (u:n*24<=140737488355328):
  Calls Tryz.prog 192 #[.slice none 0 0,.int .i64 n] w λe q=>∃ v,e=.returned v/\q.ownsRow w.heap.size 145 3 v 0 []/\Below w.heap.size w q:=by
 have j:=ag
 by_cases r:n=0
 ·subst r
  go_enter Tryz.func192,Tryz.ntmps192
  go_wp2
  go_ret
  exact⟨_,rfl,⟨rfl,.inl ⟨rfl,rfl⟩⟩,Below.refl _ _⟩
 ·obtain⟨b,k,c,s,d⟩:=qM
  have x:¬((n:Int)<0):=by omega
  have y:(n:Int)>0:=by omega
  obtain⟨G,i⟩:∃ G,G=grownCap w n 0 145:=⟨_,rfl⟩
  have t:n<=G:=by rw[i];exact grownCap_ge w _ _ _
  have a:G<=maxLen:=by rw[i];exact grownCap_le_maxLen w n 0 _ (by omega)
  obtain⟨z,l⟩:∃ z:Value,z=.agg #[.int .i64 0,.int .i64 0,.int .i64 0]:=⟨_,rfl⟩
  have m:z.cells.size=3:=by rw[l];rfl
  rw[<-l] at c
  have o:∀ p,(Builtin.append_ #[140,3] p #[.slice none 0 0,.int .i64 n]).run Tryz.prog w=
    .ok (.slice (some ⟨w.heap.size,0,none⟩) n G) (w.drew.alloc (.cells ((Builtin.zeroCells z.cells n)++Builtin.zeroCells z.cells (G-n)) 145)):=λp=>by
   have h:=Lib.run_append_grow_zeros w 140 3 p 145 b z .i64 .i64 Tryz.underlying140 Tryz.underlying3 k c none 0 0 [] (run_firstCells_none w.drew b.size 0 0 0) n (by omega) (by omega) (by omega) (by omega)
    (by rw[d];omega)
    (by rw[Nat.zero_add];exact growslice_fits (by omega) (by rw[d];omega))
   simpa [<-i] using h
  have f:Hid ((w.drew.alloc (.cells ((Builtin.zeroCells z.cells n)++Builtin.zeroCells z.cells (G-n)) 145)).ownsRow w.heap.size 145 3 (.slice (some ⟨w.heap.size,0,none⟩) 0 G) 0 []):=by
   refine⟨rfl,.inr ⟨w.heap.size,G,_,rfl,Nat.le_refl _,(MapKept.heap_alloc w.drew _).1,Nat.zero_le _,a,?_,by simp⟩⟩
   rw[Array.size_append,size_zeroCells,size_zeroCells,m,<-Nat.add_mul]
   congr 1
   omega
  have g:Hid (Below w.heap.size w (w.drew.alloc (.cells ((Builtin.zeroCells z.cells n)++Builtin.zeroCells z.cells (G-n)) 145))):=(Below.refl _ _).drew.alloc (Nat.le_refl _) _
  clear i l
  rw[j] at a
  generalize (Builtin.zeroCells z.cells n)++Builtin.zeroCells z.cells (G-n)=A at*
  go_enter Tryz.func192,Tryz.ntmps192
  go_wp2_with (at_builtin;refine Lib.wpList_append_run _ rfl _ _ _ _ rfl _ _ rfl rfl _ _ (o _) ?_)
  go_ret
  exact⟨_,rfl,f.out,g.out⟩
set_option maxHeartbeats 4000000 in
theorem x7 (B:Nat) (O P:Value) (b c:List aB) (bs:Nat) (w:World) (H:bB B w O b) (q:bB B w P c) (Q:B<=w.heap.size) (u:bs<w.heap.size) (x:w.cell? ⟨bs,0,none⟩=some O) (y:w.cell? ⟨bs,1,none⟩=some P) (U:(b.length+c.length)*24<=140737488355328):
  Calls Tryz.prog 160 #[.slice (some ⟨bs,0,none⟩) 2 2] w λe j=>∃ v,e=.returned v/\j.ownsRow w.heap.size 145 3 v (b++c).length (aU (b++c))/\Below w.heap.size w j:=by
 have V:=hid H
 have W:=hid q
 obtain⟨X,z,I,R,_⟩:=H.full
 obtain⟨Y,A,J,S,_⟩:=q.full
 have Z:=hid I
 have E1:=hid J
 rw[I] at x
 rw[J] at y
 have HC:Hid (∀ j,Below w.heap.size w j->j.cell? ⟨bs,0,none⟩=some (.slice X b.length z)/\j.cell? ⟨bs,1,none⟩=some (.slice Y c.length A)):=λj h=>⟨(h.cell (p:=⟨bs,0,none⟩) u).trans x,(h.cell (p:=⟨bs,1,none⟩) u).trans y⟩
 clear I J H q
 generalize C:b.length=n at*
 generalize D:c.length=o at*
 have E:=hid C
 have K:=hid D
 clear C D
 go_enter Tryz.func160,Tryz.ntmps160
 go_wp2
 go_loop [3,11] (λsz i=>∃ k:Nat,k<=2/\i=.int .i64 k/\sz=.int .i64 (if k=0 then 0 else if k=1 then (n:Int) else ((n:Int)+o))) (λ_ i=>2-(intOf i).toNat)
 case atStart=>exact⟨0,by omega,rfl,rfl⟩
 case round=>
  obtain⟨k,hk,rfl,rfl⟩:=hrel
  have r:k=0\/k=1\/k=2:=by omega
  rcases r with rfl | rfl | rfl
  ·go_wp2
   exact⟨⟨1,by omega,rfl,by simp⟩,by simp[intOf]⟩
  ·have T:¬((n:Int)+(o:Int)<0):=by omega
   have a6:wrap64 ((n:Int)+(o:Int))=(n:Int)+o:=by unfold wrap64;omega
   go_wp2
   exact⟨⟨2,by omega,rfl,by simp⟩,by simp[intOf]⟩
  ·have hG:Hid (∀ j,Calls Tryz.prog 192 #[.slice none 0 0,.int .i64 ((n:Int)+o)] j λe F=>∃ v,e=.returned v/\F.ownsRow j.heap.size 145 3 v 0 []/\Below j.heap.size j F):=λj=>by
    have:=AQ (n+o) j U
    rw[show ((n+o:Nat):Int)=(n:Int)+o by omega] at this
    exact this
   go_wp2_with fail
   go_at_call 192
   refine Calls.mono (hG.out _) ?_
   rintro e w1 ⟨v,rfl,m,L⟩
   have HO:=hid m
   clear m
   go_wp2_with fail
   go_loopw [6,27] (λnv i wr=>∃ (k:Nat),k<=2/\i=.int .i64 k/\Hid (wr.ownsRow w.heap.size 145 3 nv (([b,c].take k).flatten).length (aU ([b,c].take k).flatten))/\Below w.heap.size w wr) (λ_ i _=>2-(intOf i).toNat)
   case atStart=>exact⟨0,by omega,rfl,HO,L⟩
   case round=>
    obtain⟨k,hk,rfl,l,d⟩:=hrel
    obtain⟨c0,c1⟩:=HC.out _ d
    have r:k=0\/k=1\/k=2:=by omega
    rcases r with rfl | rfl | rfl
    ·obtain⟨M,G,f,a,g⟩:=jQ B w.heap.size 140 _ _ 0 [] b wr l.out (V.out.later d Q) (by rw[E.out];omega) d.size
     rw[Z.out] at f
     have s:Hid (G.ownsRow w.heap.size 145 3 M (([b,c].take 1).flatten).length (aU ([b,c].take 1).flatten)):=by
      unfold Hid
      have e:([b,c].take 1).flatten=b:=by simp
      rw[e]
      simpa using a
     have t:Below w.heap.size w G:=d.trans g
     clear a g l
     go_wp2_with (at_builtin;refine Lib.wpList_append_run _ rfl _ _ _ _ rfl _ _ rfl rfl _ _ f ?_)
     exact⟨⟨1,by omega,rfl,s,t⟩,by simp[intOf]⟩
    ·obtain⟨M,G,f,a,g⟩:=jQ B w.heap.size 140 _ _ b.length (aU b) c wr (by have:=l.out;simpa using this) (W.out.later d Q) (by rw[E.out,K.out];omega) d.size
     rw[E1.out] at f
     have s:Hid (G.ownsRow w.heap.size 145 3 M (([b,c].take 2).flatten).length (aU ([b,c].take 2).flatten)):=by
      unfold Hid
      have e:([b,c].take 2).flatten=b++c:=by simp
      rw[e,qH,List.length_append]
      exact a
     have t:Below w.heap.size w G:=d.trans g
     clear a g l
     go_wp2_with (at_builtin;refine Lib.wpList_append_run _ rfl _ _ _ _ rfl _ _ rfl rfl _ _ f ?_)
     exact⟨⟨2,by omega,rfl,s,t⟩,by simp[intOf]⟩
    ·have q:=l.out
     have e:([b,c].take 2).flatten=b++c:=by simp
     rw[e] at q
     have N:Hid _:=q
     clear l q e
     go_wp2
     go_ret
     exact⟨_,rfl,N.out,d⟩
end Go.Proofs.YtnpdhopjpjickaaGreatDoor
end
