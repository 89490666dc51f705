/- Joined: Whole Row Env Rec0 Right Grow Txt TxtO IRune IAny Num. -/
import Derived.Test.YtnpdhopjpjickaaGreatDoorWj01
import Derived.Test.YtnpdhopjpjickaaGreatDoorShelf
import Derived.Lib.LaidTab
import Derived.Lib.ItoaNum
import Derived.Lib.Split
import Derived.Lib.SplitLaws
import Derived.Lib.IndexAny
import Derived.Lib.AtoiAll
import Derived.Lib.SlicesS
import Derived.Laws.RangeAny
import Derived.Laws.Runes
import Derived.Lib.OthersKept
import Derived.Scope
import Derived.Lib.AppendIntMem
section
set_option linter.all false
namespace Go.Proofs.YtnpdhopjpjickaaGreatDoor
open Go.RowKit Go.Maps
theorem jX (w:World) (t:TypeId) (x:ByteArray):∀ W,W=Lib.bytesWorld w t x->Below w.heap.size w W:=by
 intro W h
 subst h
 exact⟨rfl,rfl,rfl,by rw[Lib.bytesWorld_size];omega,λj a=>Lib.bytesWorld_at_old w t x j a⟩
set_option maxHeartbeats 1000000 in
theorem wH (s:ByteArray) (m:Nat) (b:m<100) (c:s.size<=9223372036854775806) (d:Lib.parseIntB 64 s.data.toList=.ok (m:Int)) (g:(Lib.decDigits m).toArray=s.data) (w:World):
  Calls Tryz.prog 97 #[.string s] w λe f=>e=.returned (.tuple #[.int .i64 m,.bool true])/\Below w.heap.size w f:=by
 go_enter Tryz.func97,Tryz.ntmps97
 go_wp2_with (first
  | (go_at_call 119;go_must (refine (Tryz.strconv_ParseInt_10_at64_ok s c _ d _).mono ?_;rintro e i ⟨rfl,a⟩))
  | (go_at_call 120;go_must (refine (Tryz.strconv_FormatInt_10_small m b _).mono ?_;rintro e j ⟨rfl,rfl⟩)))
 go_ret2
 refine⟨rfl,?_⟩
 rcases a with rfl | ⟨t,h⟩
 ·exact Below.refl _ _
 ·exact jX _ _ _ _ h
end Go.Proofs.YtnpdhopjpjickaaGreatDoor
end
section
set_option linter.all false
namespace Go.Proofs.YtnpdhopjpjickaaGreatDoor
open Go.RowKit Go.Maps
theorem fD {P:Program} {t:TypeId} {z:Value} {a b:Nat} (h:(P.info? t).map (λi=>(i.zero,i.size,i.bytes))=some (some z,a,b)):∃ i,P.info? t=some i/\i.zero=some z/\i.size=a/\i.bytes=b:=by
 cases hi:P.info? t with
 | none=>rw[hi] at h;simp at h
 | some i=>rw[hi] at h;simp at h;exact⟨i,rfl,h.1,h.2.1,h.2.2⟩
theorem ct {w w':World} {a:Nat} {e:TypeId} {c:Nat} {v:Value} {n:Nat} {xs:List Value} (h:w.ownsRow a e c v n xs) (k:∀ g b,a<=g->w.heap[g]?=some (.cells b e (0,0))->w'.heap[g]?=w.heap[g]?):w'.ownsRow a e c v n xs:=by
 obtain⟨f,l | ⟨g,d,b,rfl,i,j,m⟩⟩:=h
 ·exact⟨f,.inl l⟩
 ·exact⟨f,.inr ⟨g,d,b,rfl,i,(k g b i j).trans j,m⟩⟩
theorem cK {w:World} {b a:Nat} {e:TypeId} {c:Nat} {v:Value} {n:Nat} {xs:List Value} (h:w.ownsRow b e c v n xs) (m:a<=b):w.ownsRow a e c v n xs:=by
 obtain⟨i,j | ⟨g,d,f,rfl,o,k,l⟩⟩:=h
 ·exact⟨i,.inl j⟩
 ·exact⟨i,.inr ⟨g,d,f,rfl,by omega,k,l⟩⟩
theorem au {w w':World} {a:Nat} {e:TypeId} {b:Nat} {v:Value} {n:Nat} {xs:List Value} (h:w.ownsRow a e b v n xs) (c:Below w.heap.size w w'):w'.ownsRow a e b v n xs:=
 ct h λg d _ f=>c.block g (Array.getElem?_eq_some_iff.1 f).1
theorem ng {w:World} {a:Nat} {e:TypeId} {c:Nat} {v:Value} {n:Nat} {xs:List Value} (h:w.ownsRow a e c v n xs) (j:0<n):∃ g b,v=.slice (some ⟨g,0,none⟩) n b/\a<=g:=by
 obtain⟨_,⟨_,k⟩ | ⟨g,b,d,f,i,_⟩⟩:=h
 ·omega
 ·exact⟨g,b,f,i⟩
theorem eS {w:World} {a:Nat} {e:TypeId} {b:Nat} {v:Value} {n:Nat} {xs:List Value} (h:w.ownsRow a e b v n xs):∀ k,v.ownBlock=some k->a<=k:=by
 intro k c
 obtain⟨_,⟨d,_⟩ | ⟨g,f,i,rfl,j,_⟩⟩:=h
 ·rw[d] at c;cases c
 ·simp[Value.ownBlock] at c;omega
theorem dh {w:World} {b:Nat} {e:TypeId} {c:Nat} {v:Value} {n:Nat} {xs:List Value} (h:w.ownsRow b e c v n xs):∀ k,v.ownBlock=some k->∃ a,w.heap[k]?=some (.cells a e (0,0)):=by
 intro k d
 obtain⟨_,⟨f,_⟩ | ⟨g,i,a,rfl,l,j,_⟩⟩:=h
 ·rw[f] at d;cases d
 ·simp[Value.ownBlock] at d;subst d;exact⟨a,j⟩
theorem aL {w:World} {a:Nat} {e:TypeId} {b:Nat} {g n c:Nat} {xs:List Value} (h:w.ownsRow a e b (.slice (some ⟨g,0,none⟩) n c) n xs) (q:Nat) (v:Value) (d:xs[q]?=some v):w.cell? ⟨g,q,none⟩=some v:=by
 obtain⟨p,⟨i,_⟩ | ⟨r,f,j,k,_,l,_,_,_,m⟩⟩:=h
 ·cases i
 ·cases k
  have o:q<xs.length:=(List.getElem?_eq_some_iff.1 d).1
  rw[<-m,List.getElem?_take_of_lt (by omega)] at d
  simp only[World.cell?,l]
  simpa using d
theorem ax {w:World} {b:Nat} {e:TypeId} {d:Nat} {v:Value} {n:Nat} {xs:List Value} (h:w.ownsRow b e d v n xs):∃ a c,v=.slice a n c/\n<=c/\c<=maxLen/\(0<n->∃ g,a=some ⟨g,0,none⟩/\b<=g/\g<w.heap.size):=by
 obtain⟨r,⟨j,i⟩ | ⟨k,f,l,i,m,o,p,q,_⟩⟩:=h
 ·subst i;exact⟨none,0,j,Nat.le_refl _,Nat.zero_le _,λh=>by omega⟩
 ·exact⟨_,f,i,p,q,λ_=>⟨k,rfl,m,lt_of_block o⟩⟩
theorem tp {w:World} {b:Nat} {e:TypeId} {d n:Nat} {v:Value} {xs:List Value} (h:w.ownsRow b e d v n xs):∃ a n f,v=.slice a n f:=by
 rcases h.2 with ⟨h,_⟩ | ⟨g,c,i,h,_⟩
 ·exact⟨_,_,_,h⟩
 ·exact⟨_,_,_,h⟩
end Go.Proofs.YtnpdhopjpjickaaGreatDoor
end
section
set_option linter.all false
namespace Go.Proofs.YtnpdhopjpjickaaGreatDoor
open Go.RowKit Go.Maps
def oE (w:World):Prop:=∃ a:Int,w.cell? ⟨1,0,none⟩=some (.int .i64 a)
theorem oE.lt {w:World} (h:oE w):1<w.heap.size:=by
 obtain⟨a,h⟩:=h
 exact World.block_lt_of_cell? _ _ h
theorem oE.later {w w':World} (h:oE w) (a:Below w.heap.size w w'):oE w':=by
 have b:=h.lt
 obtain⟨c,h⟩:=h
 exact⟨c,(a.cell (p:=⟨1,0,none⟩) b).trans h⟩
def xu (g:Nat) (w:World):Prop:=∃ a,w.cell? ⟨g,0,none⟩=some a/\(a=.nilIface\/∃ b c,a=.iface b c)
theorem xu.later {g:Nat} {w w':World} (h:xu g w) (b:Below w.heap.size w w'):xu g w':=by
 obtain⟨c,a,d⟩:=h
 exact⟨c,(b.cell (p:=⟨g,0,none⟩) (World.block_lt_of_cell? _ _ a)).trans a,d⟩
theorem AY {P:Program} {w w':World} {a:String} {k:IntKind} {b:List Int} (h:Lib.TabIs P w a k b) (c:Below w.heap.size w w'):Lib.TabIs P w' a k b:=by
 unfold Lib.TabIs World.var? at*
 cases hg:P.globalNamed a with
 | none=>rw[hg] at h;simp at h
 | some g=>
  rw[hg] at h
  simp only[Option.bind_some] at h |-
  cases hh:w.heap[g]? with
  | none=>rw[hh] at h;simp at h
  | some o=>
   rw[c.block g (lt_of_block hh)]
   exact h
def dX (w:World):Prop:=oE w/\xu 3 w/\xu 4 w/\Lib.TabIs Tryz.prog w "internal/strconv.uint64pow10" .u64 Lib.pow10Tab
theorem dX.later {w w':World} (h:dX w) (a:Below w.heap.size w w'):dX w':=⟨h.1.later a,h.2.1.later a,h.2.2.1.later a,AY h.2.2.2 a⟩
end Go.Proofs.YtnpdhopjpjickaaGreatDoor
end
section
set_option linter.all false
namespace Go.Proofs.YtnpdhopjpjickaaGreatDoor
abbrev al:=Int × Int × Int × ap
def BL:DecidableEq ap:=λp q=>inferInstance
instance decRec:DecidableEq al:=@instDecidableEqProd _ _ inferInstance (@instDecidableEqProd _ _ inferInstance (@instDecidableEqProd _ _ inferInstance BL))
def bF (r:al):Int:=
 if r.1<1\/4<r.1 then 4
 else if (r.2.1<0\/3<r.2.1)\/(r.2.2.1<0\/3<r.2.2.1) then 3
 else if (0<r.2.2.1/\r.1≠3)\/(¬(r.1=1\/r.1=2)/\¬(r.2.2.2.2=0/\r.2.2.2.1=[])) then 4
 else if r.1=1\/r.1=2 then ae r.2.2.2 else 0
def cr:al:=(0,0,0,[],0)
theorem gY {r:al} (h:bF r=0):(1<=r.1/\r.1<=4)/\(0<=r.2.1/\r.2.1<=3)/\(0<=r.2.2.1/\r.2.2.1<=3)/\(r.1=3\/r.2.2.1=0)/\((r.1=1\/r.1=2)/\ae r.2.2.2=0\/(r.1=3\/r.1=4)/\r.2.2.2=([],0)):=by
 unfold bF at h
 split at h
 ·cases h
 ·rename_i j
  split at h
  ·cases h
  ·rename_i l
   split at h
   ·cases h
   ·rename_i g
    have m:r.1=1\/r.1=2\/r.1=3\/r.1=4:=by omega
    have i:¬(0<r.2.2.1/\r.1≠3):=λe=>g (.inl e)
    refine⟨by omega,by omega,by omega,by omega,?_⟩
    by_cases a:r.1=1\/r.1=2
    ·rw[if_pos a] at h
     exact .inl ⟨a,h⟩
    ·refine .inr ⟨by omega,?_⟩
     have b:r.2.2.2.2=0/\r.2.2.2.1=[]:=by
      apply Classical.byContradiction
      intro e
      exact g (.inr ⟨a,e⟩)
     obtain⟨k,c,f,n,d⟩:=r
     simp only at b
     rw[b.1,b.2]
theorem dU (B:Nat) (w:World):bG B w (.agg #[.slice none 0 0,.int .i64 0]) ([],0):=
 ⟨_,rfl,by unfold wf;decide,none,0,rfl,Nat.le_refl _,Nat.zero_le _,λi r h=>by simp at h⟩
end Go.Proofs.YtnpdhopjpjickaaGreatDoor
end
section
set_option linter.all false
namespace Go.Proofs.YtnpdhopjpjickaaGreatDoor
open Go.RowKit Go.Maps
theorem CQ {k n:Int} (a:0<n) (h:k.tmod n<0):k.tmod n+n=k % n:=by
 have c:=Int.emod_nonneg k (by omega:n≠0)
 have d:=Int.emod_lt_of_pos k a
 rw[Int.tmod_eq_emod] at h |-
 split at h
 ·omega
 ·rename_i b;rw[if_neg b];omega
theorem BJ {k n:Int} (a:0<n) (h:0<=k.tmod n):k.tmod n=k % n:=by
 have c:=Int.emod_nonneg k (by omega:n≠0)
 have d:=Int.emod_lt_of_pos k a
 rw[Int.tmod_eq_emod] at h |-
 split at h
 ·rename_i b;rw[if_pos b];omega
 ·omega
set_option maxHeartbeats 1000000 in
theorem yU (k n:Int) (a:0<n/\n<=65536) (w:World):
  Calls Tryz.prog 23 #[.int .i64 k,.int .i64 n] w λe d=>e=.returned (.int .i64 (k % n))/\d=w:=by
 have f:(n==0)=false:=by simp;omega
 have g:n≠-1:=by omega
 have b:=Int.emod_nonneg k (by omega:n≠0)
 have c:=Int.emod_lt_of_pos k a.1
 have i:=hid b
 have j:=hid c
 clear b c
 go_enter Tryz.func23,Tryz.ntmps23
 go_wp2
 ·have h:k.tmod n<0:=by assumption
  go_ret
  refine⟨?_,rfl⟩
  have e:=CQ a.1 h
  have l:=i.out
  have m:=j.out
  rw[e]
  rw[IntWalk.wrap64_in _ (by omega)]
  rfl
 ·have h:0<=k.tmod n:=by assumption
  go_ret
  refine⟨?_,rfl⟩
  rw[BJ a.1 h]
  rfl
theorem uI (n:Int):0<=aF n:=by
 unfold aF
 split
 ·omega
 ·split<;>omega
def rx (x:Nat->Int) (j:Nat):Int:=x j % (aF j+1)
def uT (x:Nat->Int) (k j:Nat):Int:=if j<k then rx x j else x j
def dy (y:Nat->Int):Array Value:=#[.int .i64 (y 0),.int .i64 (y 1),.int .i64 (y 2),.int .i64 (y 3),.int .i64 (y 4)]
theorem cY {w:World} {b:Nat} {y:Nat->Int} {t:TypeId} (h:w.heap[b]?=some (.cells (dy y) t (0,0))):t7 w b y/\∀ j,w.frozen? ⟨b,j,none⟩=false:=by
 refine⟨λj a=>?_,λj=>by simp[World.frozen?,h]⟩
 have:j=0\/j=1\/j=2\/j=3\/j=4:=by omega
 rcases this with rfl | rfl | rfl | rfl | rfl<;>simp[World.cell?,h,dy]
theorem an {w:World} {b o:Nat} {cs:Array Value} {u:Value} {t:TypeId} (h:w.heap[b]?=some (.cells cs t (0,0))):(w.setCell ⟨b,o,none⟩ u).heap[b]?=some (.cells (cs.setIfInBounds o u) t (0,0)):=by
 have a:=lt_of_block h
 have c:w.heap[b]=.cells cs t (0,0):=by simpa [Array.getElem?_eq_getElem a] using h
 show (w.heap.modify b _)[b]?=_
 rw[Array.getElem?_eq_getElem (by simpa using a),Array.getElem_modify_self,c]
 rfl
theorem D7 (x:Nat->Int) (k:Nat) (a:k<5):(dy (uT x k)).setIfInBounds k (.int .i64 (rx x k))=dy (uT x (k+1)):=by
 have:k=0\/k=1\/k=2\/k=3\/k=4:=by omega
 rcases this with rfl | rfl | rfl | rfl | rfl<;>simp[dy,uT]
set_option maxRecDepth 20000 in
set_option maxHeartbeats 2000000 in
theorem Ai (x:Nat->Int) (w:World):
  Calls Tryz.prog 25 #[fK x] w λe N=>e=.returned (fK (rx x))/\Below w.heap.size w N:=by
 show Calls Tryz.prog 25 #[.agg #[.int .i64 (x 0),.int .i64 (x 1),.int .i64 (x 2),.int .i64 (x 3),.int .i64 (x 4)]] w _
 have t:∀ X Y,Below w.heap.size w ((w.alloc X).alloc Y):=λX Y=>((Below.refl _ _).alloc (Nat.le_refl _) _).alloc (by simp) _
 go_enter Tryz.func25,Tryz.ntmps25
 go_wp2
 have z:((w.alloc (.cells #[.int .i64 (x 0),.int .i64 (x 1),.int .i64 (x 2),.int .i64 (x 3),.int .i64 (x 4)] 34)).alloc (.cells #[.int .i64 0,.int .i64 0,.int .i64 0,.int .i64 0,.int .i64 0] 34)).heap[w.heap.size]?=some (.cells (dy (uT x 0)) 34 (0,0)):=by
  rw[Below.heap_alloc _ _ _ (by simp)]
  exact (MapKept.heap_alloc w _).1
 have A:((w.alloc (.cells #[.int .i64 (x 0),.int .i64 (x 1),.int .i64 (x 2),.int .i64 (x 3),.int .i64 (x 4)] 34)).alloc (.cells #[.int .i64 0,.int .i64 0,.int .i64 0,.int .i64 0,.int .i64 0] 34)).heap[w.heap.size+1]?=some (.cells (dy λ_=>0) 34 (0,0)):=by
  have:=(MapKept.heap_alloc (w.alloc (.cells #[.int .i64 (x 0),.int .i64 (x 1),.int .i64 (x 2),.int .i64 (x 3),.int .i64 (x 4)] 34)) (.cells #[.int .i64 0,.int .i64 0,.int .i64 0,.int .i64 0,.int .i64 0] 34)).1
  rw[World.size_alloc] at this
  exact this
 have B:=t (.cells #[.int .i64 (x 0),.int .i64 (x 1),.int .i64 (x 2),.int .i64 (x 3),.int .i64 (x 4)] 34) (.cells #[.int .i64 0,.int .i64 0,.int .i64 0,.int .i64 0,.int .i64 0] 34)
 go_loopw [4] (λi wr=>∃ k:Nat,k<=5/\i=.int .i64 k/\Below w.heap.size w wr/\Hid (wr.heap[w.heap.size]?=some (.cells (dy (uT x k)) 34 (0,0)))/\Hid (wr.heap[w.heap.size+1]?=some (.cells (dy λ_=>0) 34 (0,0)))) (λi _=>5-(intOf i).toNat)
 case atStart=>exact⟨0,by omega,rfl,B,z,A⟩
 case round=>
  obtain⟨k,hk,rfl,a,C,g⟩:=hrel
  have i0:(0:Int)<=(k:Int):=by omega
  have hz:=lt_of_block g.out
  by_cases b:k<5
  ·have i1:(k:Int)<5:=by omega
   have D:(Lit.int .i64 (k:Int)).wf=true:=WalkArith.wf_i64 (by omega)
   have O:0<=aF k:=uI k
   have P:=jo (k:Int)
   have E:uT x k k=x k:=by simp[uT]
   go_wp2
   have F:=aw.ne wr
   have Q:∀ y:aw wr,y.1.cell? ⟨w.heap.size,k,none⟩=some (.int .i64 (x k)):=λy=>y.cell (by rw[(cY C.out).1 k b,E]) (by omega)
   have R:Hid (x k % (aF k+1)=rx x k):=rfl
   refine lI [_,_,_,_,_,_,_,_,_] _ rfl (by kernel_rfl) (by kernel_rfl) ?_
   repeat (go_big_quiet_step (first | (go_at_call 46;exact Calls.later (rh _ D _)) | (go_at_call 23;exact Calls.later_same (yU _ _ (by omega) _))))
   refine wpQuiet_nil ?_
   rintro S ⟨⟨_,q⟩,rfl⟩
   have G:=Below.thenOf a q a.size
   have s:=(q.block w.heap.size (by omega)).trans C.out
   have J:=(q.block (w.heap.size+1) (by omega)).trans g.out
   have t0:=(cY s).1 k b
   have t1:=(cY s).2 k
   have H:=an (o:=k) (u:=.int .i64 (rx x k)) s
   rw[D7 x k b] at H
   have K:(S.setCell ⟨w.heap.size,k,none⟩ (.int .i64 (rx x k))).heap[w.heap.size+1]?=some (.cells (dy λ_=>0) 34 (0,0)):=by rw[Below.heap_setCell _ _ _ _ (by show w.heap.size+1≠w.heap.size;omega)];exact J
   have h:Hid _:=H
   have l:Hid _:=K
   clear Q F s J H K q
   unfold rx at h l
   go_wp2
   exact⟨⟨k+1,by omega,by go_num,G.setCell (p:=⟨w.heap.size,k,none⟩) (Nat.le_refl _) _,h.out,l.out⟩,by simp[intOf];omega⟩
  ·obtain rfl:k=5:=by omega
   have L:∀ j,j<5->uT x 5 j=rx x j:=λj T=>by simp[uT,T]
   have c:=(cY C.out).1
   have U:=c 0 (by omega)
   have V:=c 1 (by omega)
   have W:=c 2 (by omega)
   have Z:=c 3 (by omega)
   have y4:=c 4 (by omega)
   rw[L _ (by omega)] at U V W Z y4
   have d:=(cY g.out).1
   have f:=(cY g.out).2
   have z0:=d 0 (by omega)
   have z1:=d 1 (by omega)
   have z2:=d 2 (by omega)
   have z3:=d 3 (by omega)
   have z4:=d 4 (by omega)
   have f0:=f 0
   have f1:=f 1
   have f2:=f 2
   have f3:=f 3
   have f4:=f 4
   clear c d f L
   have m:Below w.heap.size w (((((wr.setCell ⟨w.heap.size+1,0,none⟩ (.int .i64 (rx x 0))).setCell ⟨w.heap.size+1,1,none⟩ (.int .i64 (rx x 1))).setCell ⟨w.heap.size+1,2,none⟩ (.int .i64 (rx x 2))).setCell ⟨w.heap.size+1,3,none⟩ (.int .i64 (rx x 3))).setCell ⟨w.heap.size+1,4,none⟩ (.int .i64 (rx x 4))):=((((a.setCell (p:=⟨w.heap.size+1,0,none⟩) (Nat.le_succ _) _).setCell (p:=⟨w.heap.size+1,1,none⟩) (Nat.le_succ _) _).setCell (p:=⟨w.heap.size+1,2,none⟩) (Nat.le_succ _) _).setCell (p:=⟨w.heap.size+1,3,none⟩) (Nat.le_succ _) _).setCell (p:=⟨w.heap.size+1,4,none⟩) (Nat.le_succ _) _
   have M:=an (o:=4) (u:=.int .i64 (rx x 4)) (an (o:=3) (u:=.int .i64 (rx x 3)) (an (o:=2) (u:=.int .i64 (rx x 2)) (an (o:=1) (u:=.int .i64 (rx x 1)) (an (o:=0) (u:=.int .i64 (rx x 0)) g.out))))
   have I:=hid M
   have n:Hid _:=m
   clear M m
   have a1:Hid (rx x=rx x):=rfl
   generalize hr:rx x=r at*
   go_wp2
   have Y:=(cY I.out).1
   have v0:=Y 0 (by omega)
   have v1:=Y 1 (by omega)
   have v2:=Y 2 (by omega)
   have v3:=Y 3 (by omega)
   have v4:=Y 4 (by omega)
   refine bodyPost_ret (v:=fK r) ?_ rfl ⟨rfl,n.out⟩
   rw[bJ rfl]
   unfold fK
   go_simp
theorem Ce (x:Nat->Int):dw (rx x)=0:=by
 have h:∀ j:Nat,Bt j (rx x j)=true:=by
  intro j
  have a:=Int.emod_nonneg (x j) (by have:=uI j;omega:aF j+1≠0)
  have b:=Int.emod_lt_of_pos (x j) (by have:=uI j;omega:0<aF j+1)
  unfold Bt rx
  simp
  omega
 unfold dw DB
 rw[if_pos]
 simp only[eR,Bool.and_eq_true]
 exact⟨h 0,h 1,h 2,h 3,h 4,trivial⟩
end Go.Proofs.YtnpdhopjpjickaaGreatDoor
end
section
set_option linter.all false
set_option maxRecDepth 100000
namespace Go.Proofs.YtnpdhopjpjickaaGreatDoor
open Go.RowKit Go.Maps
theorem ab {w:World} {b:Nat} {a:Array Value} {T:TypeId} {c:Nat × Nat} (h:w.heap[b]?=some (.cells a T c)) (o:Nat) {u:Value} (d:a[o]?=some u):w.cell? ⟨b,o,none⟩=some u:=by simp[World.cell?,h,d]
theorem af (w:World) (o:Obj):(w.alloc o).heap[w.heap.size]?=some o:=(MapKept.heap_alloc w o).1
def eY (T:TypeId) (W d:World):Prop:=∀ (k:Nat) (a:Array Value) (b:TypeId) (c:Nat × Nat),W.heap[k]?=some (.cells a b c)->b≠T->d.heap[k]?=some (.cells a b c)
theorem eY.refl (T:TypeId) (W:World):eY T W W:=λ_ _ _ _ h _=>h
theorem eY.trans {T:TypeId} {A B C:World} (h:eY T A B) (e:eY T B C):eY T A C:=λk a b c f d=>e k a b c (h k a b c f d) d
theorem eY.of_below {T:TypeId} {W a:World} (h:Below W.heap.size W a):eY T W a:=λk c d e b _=>(h.block k (lt_of_block b)).trans b
theorem eY.drew {T:TypeId} {W a:World} (h:eY T W a):eY T W a.drew:=h
theorem eY.alloc {T:TypeId} {W a:World} (h:eY T W a) (o:Obj):eY T W (a.alloc o):=h.trans (eY.of_below ((Below.refl _ _).alloc (Nat.le_refl _) _))
theorem eY.grown {T:TypeId} {W c:World} {a size n:Nat} {v:Value} {xs:List Value} (f:W.ownsRow a T size v n xs) (g:W.grownBy c v.ownBlock):eY T W c:=by
 intro k i l m b j
 refine (g.block k (lt_of_block b) λh=>?_).trans b
 obtain⟨d,e⟩:=dh f k h.symm
 rw[b] at e
 cases e
 exact j rfl
section
variable {P:Program} {t e:TypeId} {inf:TypeInfo} {z:Value} {size bytes:Nat}
theorem vA (w:P.underlying t=some (.slice e)) (x:P.info? e=some inf) (y:inf.zero=some z) (h:inf.size=size) (o:inf.bytes=bytes) (p:z.cells.size=size) (q:0<size)
  (a:Nat) (r:TypeId) (v:Value) (n m g:Nat) (xs b:List Value) (W:World) {A:TypeId} {B:Nat × Nat} (d:W.ownsRow a e size v n xs) (C:W.heap[g]?=some (.cells b.toArray A B)) (D:b.length=m*size) (E:∀ u∈b,u.oneCell'=true)
  (F:n+m<=maxLen) (G:(n+m)*bytes<=140737488355328) (f:a<=W.heap.size) (c:Nat):
  ∃ l i,(Builtin.append_ #[t,t] r #[v,.slice (some ⟨g,0,none⟩) m c]).run P W=.ok l i/\i.ownsRow a e size l (n+m) (xs++b)/\Below a W i/\eY e W i:=by
 obtain⟨l,i,H,I,s,_⟩:=run_append_own (P:=P) W a t r e inf z size bytes w x y h o p q v n xs d ⟨g,0,none⟩ m c b D (λj u J=>by rw[dL];simpa [World.cell?,C] using J) E F G f
 exact⟨l,i,H,I,(Below.refl _ _).grown s f λk K=>eS d k K,eY.grown d s⟩
def jm (e:TypeId) (size a:Nat) (W:World) (v:Value) (n m:Nat) (xs b:List Value) (f d:Nat) (c:Nat->Value->Prop) (w:World):Prop:=
 Below a W w/\eY e W w/\
 ((∀ u,¬c d u)->w.ownsRow a e size v n xs/\Below W.heap.size W w/\∀ u,c f u->∃ g h i,u=.slice (some ⟨g,0,none⟩) m m/\w.heap[g]?=some (.cells b.toArray h i))/\
 (∀ u,c d u->w.ownsRow a e size u (n+m) (xs++b))
theorem jm.start {a:Nat} {W:World} {v:Value} {n m:Nat} {xs b:List Value} {c d:Nat} (h:W.ownsRow a e size v n xs):jm e size a W v n m xs b c d (λ_ _=>False) W.drew:=
 ⟨(Below.refl _ _).drew,eY.refl _ _,λ_=>⟨h,(Below.refl _ _).drew,λ_ h=>h.elim⟩,λ_ h=>h.elim⟩
theorem jm.later {d:Nat} {W w w':World} {v:Value} {n m:Nat} {xs f:List Value} {l o:Nat} {p:Nat->Value->Prop} (h:jm e size d W v n m xs f l o p w) (i:d<=W.heap.size) (j:Below w.heap.size w w'):jm e size d W v n m xs f l o p w':=by
 obtain⟨q,s,t,x⟩:=h
 refine⟨Below.thenOf q j (Nat.le_trans i q.size),s.trans (eY.of_below j),λy=>?_,λu k=>au (x u k) j⟩
 obtain⟨a,b,c⟩:=t y
 refine⟨au a j,Below.thenOf b j b.size,λu k=>?_⟩
 obtain⟨g,z,A,B,r⟩:=c u k
 exact⟨g,z,A,B,(j.block g (lt_of_block r)).trans r⟩
theorem jm.other {f:Nat} {W w:World} {v:Value} {n m:Nat} {xs g:List Value} {i j:Nat} {p:Nat->Value->Prop} (h:jm e size f W v n m xs g i j p w) (k:Nat) (u:Value) (l:i≠k) (o:j≠k):jm e size f W v n m xs g i j (bW p k u) w:=by
 obtain⟨q,r,s,t⟩:=h
 refine⟨q,r,λx=>?_,λy d=>?_⟩
 ·obtain⟨a,b,c⟩:=s λy d=>x y (.inl d)
  refine⟨a,b,λy d=>?_⟩
  rcases d with d | ⟨h,_⟩
  ·exact c y d
  ·exact absurd h l
 ·rcases d with d | ⟨h,_⟩
  ·exact t y d
  ·exact absurd h o
theorem jm.call {a:Nat} {W w w':World} {v:Value} {n m:Nat} {xs b:List Value} {d f:Nat} {j:Nat->Value->Prop} (h:jm e size a W v n m xs b d f j w) (c:a<=W.heap.size) (l:Below w.heap.size w w') (k:Nat) (u:Value) (g:d≠k) (i:f≠k):jm e size a W v n m xs b d f (bW j k u) w':=(h.later c l).other k u g i
theorem jm.lit {f:Nat} {W w:World} {v:Value} {n m:Nat} {xs d:List Value} {j k:Nat} {o:Nat->Value->Prop} (h:jm e size f W v n m xs d j k o w) (i:f<=W.heap.size) (p:k≠j) (l:TypeId):jm e size f W v n m xs d j k (bW o j (.slice (some ⟨w.heap.size,0,none⟩) m m)) (w.alloc (.cells d.toArray l)):=by
 obtain⟨q,r,s,t⟩:=h.later i ((Below.refl w.heap.size w).alloc (Nat.le_refl _) (.cells d.toArray l))
 refine⟨q,r,λu=>?_,λy g=>?_⟩
 ·obtain⟨a,b,c⟩:=s λy g=>u y (.inl g)
  refine⟨a,b,λy g=>?_⟩
  rcases g with g | ⟨_,rfl⟩
  ·exact c y g
  ·exact⟨w.heap.size,l,(0,0),rfl,(MapKept.heap_alloc w _).1⟩
 ·rcases g with g | ⟨h,_⟩
  ·exact t y g
  ·exact absurd h p
theorem jm.app (J:P.underlying t=some (.slice e)) (K:P.info? e=some inf) (L:inf.zero=some z) (i:inf.size=size) (A:inf.bytes=bytes) (B:z.cells.size=size) (C:0<size)
  {f:Nat} {W w:World} {v:Value} {n m:Nat} {xs d:List Value} {D r:Nat} {s:Nat->Value->Prop} (h:jm e size f W v n m xs d D r s w) (j:f<=W.heap.size) (M:d.length=m*size) (N:∀ u∈d,u.oneCell'=true)
  (O:n+m<=maxLen) (E:(n+m)*bytes<=140737488355328) (G:TypeId) (k:Value) (p:s D k) (q:∀ u,¬s r u):
  ∃ o x,(Builtin.append_ #[t,t] G #[v,k]).run P w=.ok o x/\(∃ a l,o=.slice a (n+m) l)/\jm e size f W v n m xs d D r (bW s r o) x:=by
 obtain⟨H,Q,R,X⟩:=h
 obtain⟨a,b,c⟩:=R q
 obtain⟨g,Y,Z,rfl,S⟩:=c k p
 obtain⟨o,x,T,I,U,V⟩:=vA J K L i A B C f G v n m g xs d w a S M N O E (Nat.le_trans j H.size) m
 refine⟨o,x,T,?_,H.trans U,Q.trans V,λE=>absurd (.inr ⟨rfl,rfl⟩) (E o),λy F=>?_⟩
 ·obtain⟨a,l,h,_⟩:=ax I
  exact⟨a,l,h⟩
 ·rcases F with F | ⟨_,rfl⟩
  ·exact absurd F (q y)
  ·exact I
def vR (T:TypeId) (W:World):Type:={ w':World // eY T W w' }
theorem vR.ne (T:TypeId) (W:World):Nonempty (vR T W):=⟨⟨W,eY.refl _ _⟩⟩
theorem vR.cell {T:TypeId} {W:World} (x:vR T W) {b o:Nat} {a:Array Value} {c:TypeId} {d:Nat × Nat} {v:Value} (h:W.heap[b]?=some (.cells a c d)) (f:c≠T) (e:W.cell? ⟨b,o,none⟩=some v):x.1.cell? ⟨b,o,none⟩=some v:=by
 have g:=x.2 b a c d h f
 simp only[World.cell?,h] at e
 simp only[World.cell?,g]
 exact e
theorem jm.seen {a:Nat} {W:World} {v:Value} {n m:Nat} {xs b:List Value} {c d:Nat}:∀ f w,jm e size a W v n m xs b c d f w->∃ x:vR e W,w=x.1:=λ_ w h=>⟨⟨w,h.2.1⟩,rfl⟩
end
end Go.Proofs.YtnpdhopjpjickaaGreatDoor
end
section
set_option linter.all false
namespace Go.Proofs.YtnpdhopjpjickaaGreatDoor
open Go.RowKit Go.Maps
abbrev Bs:=List UInt8
def bU (c:UInt8):Bs->List Bs
 | []=>[[]]
 | b :: l=>if b=c then [] :: bU c l else match bU c l with
  | []=>[[b]]
  | h :: t=>(b :: h) :: t
theorem fj (c:UInt8):∀ l,bU c l≠[]
 | []=>by simp[bU]
 | b :: l=>by
  unfold bU
  split
  ·simp
  ·split<;>simp
theorem iM (c:UInt8):∀ l:Bs,Lib.split l [c]=bU c l
 | []=>by simp[Lib.split,Lib.count_one,bU,Lib.splitK]
 | b :: l=>by
  have f:=iM c l
  unfold Lib.split at f |-
  by_cases h:b=c
  ·subst h
   rw[Lib.count_cons_eq,Nat.add_comm,Lib.splitK]
   have a:Lib.index (b :: l) [b]=0:=by rw[Lib.index];simp[List.isPrefixOf]
   rw[a]
   simp[f,bU]
  ·rw[Lib.count_cons_ne b c l h]
   have k:([c]:Bs).isPrefixOf (b :: l)=false:=by simp[List.isPrefixOf,Ne.symm h]
   have a:Lib.index (b :: l) [c]=if Lib.index l [c]==-1 then -1 else Lib.index l [c]+1:=by rw[Lib.index,k];simp
   rw[bU,if_neg h,<-f]
   by_cases i:Lib.index l [c] = -1
   ·rw[Lib.count_miss i]
    simp[Lib.splitK]
   ·have m:=Lib.index_ge l [c]
    obtain⟨j,g⟩:∃ j:Nat,Lib.index l [c]=j:=⟨(Lib.index l [c]).toNat,by omega⟩
    have d:Lib.index (b :: l) [c]=((j+1:Nat):Int):=by rw[a,if_neg (λe=>i (beq_iff_eq.1 e)),g];omega
    rw[Lib.count_hit (by simp) g,Nat.add_comm,Lib.splitK,Lib.splitK,d,g]
    have n:(((j+1:Nat):Int)==-1)=false:=beq_eq_false_iff_ne.2 (by omega)
    have o:(((j:Nat):Int)==-1)=false:=beq_eq_false_iff_ne.2 (by omega)
    rw[n,o]
    simp
def bI:List Bs->Bs->Int
 | [],_=>-1
 | n :: r,x=>if n=x then 0 else if bI r x = -1 then -1 else bI r x+1
theorem kU:∀ (l:List Bs) (x:Bs),-1<=bI l x
 | [],_=>by simp[bI]
 | n :: r,x=>by
  have:=kU r x
  unfold bI
  split
  ·omega
  ·split<;>omega
theorem mJ:∀ (l:List Bs) (x:Bs),bI l x<l.length
 | [],_=>by simp[bI]
 | n :: r,x=>by
  have:=mJ r x
  unfold bI
  rw[List.length_cons]
  split
  ·omega
  ·split<;>omega
def vN:List Bs:=[[107,105,108,108],[116,114,97,112],[102,97,105,108],[108,111,103],[97,108,108,111,119]]
def fN:List Bs:=[[110,114],[107,105,110,100],[97],[98],[99]]
def fk:Bs:=[61,33,60,62]
def cS (w:Bs):Option Int:=match Lib.atoiAll w with
 | .ok v=>if Lib.itoa v=w then some v else none
 | _=>none
def dg (w:Bs):Option aB:=
 if Lib.indexAny w fk<0 then none else
  match cS (w.drop ((Lib.indexAny w fk).toNat+1)) with
  | none=>none
  | some n=>if bI fN (w.take (Lib.indexAny w fk).toNat)<0 then none else some (bI fN (w.take (Lib.indexAny w fk).toNat),1+Lib.indexByte fk (w.getD (Lib.indexAny w fk).toNat 0),n)
def dP {α:Type} (f:Bs->Option α):List Bs->Option (List α)
 | []=>some []
 | w :: r=>match f w,dP f r with
  | some a,some l=>some (a :: l)
  | _,_=>none
def cP (w:Bs):Option ai:=match bU 32 w with
 | []=>none
 | h :: t=>if bI vN h<0 then none else match dP dg t with
  | none=>none
  | some a=>some (a,bI vN h)
def zQ1 (s:Bs):Option ap:=match dP cP (bU 59 s).dropLast with
 | none=>none
 | some a=>if bI vN ((bU 59 s).getLast (fj 59 s))<0 then none else some (a,bI vN ((bU 59 s).getLast (fj 59 s)))
def cy (s:Bs):ap × Int:=if 60000<s.length then (([],0),2) else match zQ1 s with
 | none=>(([],0),1)
 | some p=>if ae p=0 then (p,0) else (([],0),ae p)
theorem sK {α:Type} (f:Bs->Option α):∀ (l:List Bs) (w:Bs),dP f (l++[w])=match dP f l,f w with
  | some r,some a=>some (r++[a])
  | _,_=>none
 | [],w=>by
  simp only[List.nil_append,dP]
  cases f w<;>rfl
 | x :: r,w=>by
  rw[List.cons_append,dP,sK f r w,dP]
  cases f x<;>cases dP f r<;>cases f w<;>rfl
theorem rC {α:Type} (f:Bs->Option α) (l:List Bs) (k:Nat) (w:Bs) (h:l[k]?=some w) (r:List α) (b:dP f (l.take k)=some r) (a:α) (c:f w=some a):dP f (l.take (k+1))=some (r++[a]):=by
 rw[List.take_add_one,h]
 simp only[Option.toList]
 rw[sK,b,c]
theorem nM {α:Type} (f:Bs->Option α):∀ (l:List Bs) (k:Nat) (w:Bs),l[k]?=some w->f w=none->dP f l=none
 | [],_,_,h,_=>by simp at h
 | x :: r,0,w,h,a=>by
  simp at h
  subst h
  rw[dP,a]
 | x :: r,k+1,w,h,a=>by
  rw[dP,nM f r k w (by simpa using h) a]
  cases f x<;>rfl
end Go.Proofs.YtnpdhopjpjickaaGreatDoor
end
section
set_option linter.all false
namespace Go.Proofs.YtnpdhopjpjickaaGreatDoor
open Go.RowKit Go.Maps
def cJ (v:Int):Bs:=vN.getD v.toNat []
def fM (f:Int):Bs:=fN.getD f.toNat []
def gH (o:Int):UInt8:=fk.getD (o-1).toNat 0
def bR (c:aB):Bs:=32 :: (fM c.1++(gH c.2.1 :: Lib.itoa c.2.2))
def ck (r:ai):Bs:=cJ r.2++r.1.flatMap bR++[59]
def cM (p:ap):Bs:=p.1.flatMap ck++cJ p.2
theorem jD:∀ u:Nat,(Lib.decDigits u).length<=u+1:=by
 intro u
 induction u using Nat.strongRecOn with
 | _ u a=>
  rw[Lib.decDigits]
  split
  ·simp
  ·rename_i h
   have:=a (u / 10) (by omega)
   simp
   omega
theorem jW (v:Int):(cJ v).length<=5:=by
 unfold cJ
 generalize v.toNat=k
 match k with
 | 0=>decide
 | 1=>decide
 | 2=>decide
 | 3=>decide
 | 4=>decide
 | k+5=>simp[vN]
theorem tK (v:Int):(fM v).length<=4:=by
 unfold fM
 generalize v.toNat=k
 match k with
 | 0=>decide
 | 1=>decide
 | 2=>decide
 | 3=>decide
 | 4=>decide
 | k+5=>simp[fN]
theorem lV {c:aB} (h:aW c=0):(0<=c.1/\c.1<5)/\(1<=c.2.1/\c.2.1<=4)/\(0<=c.2.2/\c.2.2<=65535):=by
 unfold aW at h
 split at h
 ·cases h
 ·split at h
  ·cases h
  ·split at h
   ·cases h
   ·have:=jo c.1
    omega
theorem uD {c:aB} (h:aW c=0):(bR c).length<=70000:=by
 obtain⟨_,_,a⟩:=lV h
 have b:=tK c.1
 have d:(Lib.itoa c.2.2).length<=65536:=by
  unfold Lib.itoa
  rw[if_neg (by omega)]
  have:=jD c.2.2.toNat
  omega
 unfold bR
 simp
 omega
theorem jI:∀ (cs:List aB),(∀ c∈cs,aW c=0)->(cs.flatMap bR).length<=cs.length*70000
 | [],_=>by simp
 | c :: r,h=>by
  have:=jI r λd a=>h d (by simp[a])
  have:=uD (h c (by simp))
  simp only[List.flatMap_cons,List.length_append,List.length_cons]
  omega
theorem mS:∀ (cs:List aB),dB cs=0->∀ c∈cs,aW c=0
 | [],_,c,h=>by cases h
 | d :: r,h,c,b=>by
  unfold dB at h
  by_cases a:aW d=0
  ·rw[if_pos a] at h
   rcases List.mem_cons.1 b with rfl | b
   ·exact a
   ·exact mS r h c b
  ·rw[if_neg a] at h
   exact absurd h a
theorem lX {r:ai} (h:aR r=0):r.1.length<=10/\(0<=r.2/\r.2<=4)/\∀ c∈r.1,aW c=0:=by
 unfold aR at h
 split at h
 ·cases h
 ·split at h
  ·rename_i a
   unfold bi at a
   simp at a
   exact⟨by omega,a,mS _ h⟩
  ·cases h
theorem mN:∀ (e:List ai),d4 e=0->∀ r∈e,aR r=0
 | [],_,c,h=>by cases h
 | d :: r,h,c,b=>by
  unfold d4 at h
  by_cases a:aR d=0
  ·rw[if_pos a] at h
   rcases List.mem_cons.1 b with rfl | b
   ·exact a
   ·exact mN r h c b
  ·rw[if_neg a] at h
   exact absurd h a
theorem kR {p:ap} (h:ae p=0):p.1.length<=120/\(0<=p.2/\p.2<=4)/\∀ r∈p.1,aR r=0:=by
 unfold ae at h
 split at h
 ·cases h
 ·split at h
  ·rename_i a
   unfold bi at a
   simp at a
   exact⟨by omega,a,mN _ h⟩
  ·cases h
theorem vh {r:ai} (h:aR r=0):(ck r).length<=800000:=by
 obtain⟨b,_,a⟩:=lX h
 have:=jI r.1 a
 have:=jW r.2
 unfold ck
 simp only[List.length_append,List.length_cons,List.length_nil]
 omega
theorem ii:∀ (a:List ai),(∀ r∈a,aR r=0)->(a.flatMap ck).length<=a.length*800000
 | [],_=>by simp
 | c :: r,h=>by
  have:=ii r λd b=>h d (by simp[b])
  have:=vh (h c (by simp))
  simp only[List.flatMap_cons,List.length_append,List.length_cons]
  omega
end Go.Proofs.YtnpdhopjpjickaaGreatDoor
end
section
set_option linter.all false
set_option maxRecDepth 100000
namespace Go.Proofs.YtnpdhopjpjickaaGreatDoor
open Go.RowKit Go.Maps
theorem eK {P:Program} {c:Array Oper} {C:World->Prop} {Q:Act->Prop} {a:Act} {o:Oper} {b:List Oper} (v:Value) (d:Region.wanted o (yielded c a.tmps)=true) (e:∀ w,(execOp a.eval o).run P w=.ok (.value v) w) (h:wpQuiet P c C Q b (a.put o.dst v)):wpQuiet P c C Q (o :: b) a:=
 Go.BigFrame.wpQuiet_want d λK f=>⟨v,λw _=>by unfold Oper.quietAt;rw[e w];exact⟨rfl,rfl⟩,f _ h⟩
def i8:ByteArray:=⟨#[61,33,60,62]⟩
theorem wT:i8.data.toList=fk:=rfl
theorem xd (s:ByteArray) (pos j:Nat) (b:0<j) (h:j<(Utf8.decode s pos).2):128<=(s.get! (pos+j)).toNat:=by
 unfold Utf8.decode at h
 simp only[] at h
 split at h
 ·simp at h;omega
 ·split at h
  ·rename_i a
   simp at a
   split at h
   ·simp at h
    obtain rfl:j=1:=by omega
    omega
   ·simp at h;omega
  ·split at h
   ·rename_i a
    simp at a
    split at h
    ·simp at h
     have:j=1\/j=2:=by omega
     rcases this with rfl | rfl<;>omega
    ·simp at h;omega
   ·split at h
    ·rename_i a
     simp at a
     split at h
     ·simp at h
      have:j=1\/j=2\/j=3:=by omega
      rcases this with rfl | rfl | rfl<;>omega
     ·simp at h;omega
    ·simp at h;omega
theorem Cu (b:UInt8) (h:128<=b.toNat):fk.contains b=false:=by
 unfold fk
 simp
 refine⟨?_,?_,?_,?_⟩<;>(intro e;subst e;revert h;decide)
theorem sI (l:Bs) (c:UInt8) (d:∀ b∈l,b.toNat<128) (h:128<=c.toNat):Lib.indexByte l c = -1:=by
 induction l with
 | nil=>rfl
 | cons b r f=>
  have i:=d b (by simp)
  have a:(b==c)=false:=by
   rw[beq_eq_false_iff_ne]
   intro e
   subst e
   omega
  rw[Lib.indexByte,f λx g=>d x (by simp[g]),a]
  rfl
theorem gt (s:ByteArray) (i:Nat) (h:i<s.size) (w:World):(Instr.index 9 (.string s) (.int .i64 i)).run Tryz.prog w=.ok (.int .u8 (s[i]'h).toNat) w:=by
 have a:(i:Int)<(s.size:Int):=by omega
 simp[go_sem,h,a,Tryz.underlying9]
theorem mF (s:ByteArray) (i:Nat) (h:i<=s.size) (w:World):(Instr.sliceAt 9 (.string s) (some (.int .i64 i)) none none).run Tryz.prog w=.ok (.string (s.extract i s.size)) w:=by
 have a:(i:Int)<=(s.size:Int):=by omega
 simp[go_sem,h,a,Tryz.underlying9]
theorem ol (i:Nat) (c:UInt8) (d:128<=c.toNat) (w:World):Calls Tryz.prog 258 #[.string (i8.extract i 4),.int .u8 c.toNat] w λe f=>e=.returned (.int .i64 (-1))/\f=w:=by
 have:=Tryz.strings_IndexByte (i8.extract i 4) c.toNat w
 rw[sI _ _ ?_ (by simpa using d)] at this
 ·exact this
 ·intro b g
  have a:b∈i8.data.toList:=mem_extract g
  rw[wT] at a
  simp[fk] at a
  rcases a with rfl | rfl | rfl | rfl<;>decide
theorem f9 {P:Program} {w:World} {x:Sem Value} {v:Value} (h:x.run P w=.ok v w):(do let y <-x;pure (Next.value y):Sem Next).run P w=.ok (.value v) w:=by
 simp[Sem.run_bind,h,Result.andThen]
set_option maxHeartbeats 4000000 in
theorem Ee (r:Int) (b:ByteArray) (z:128<=r) (q:(r==65533)=false) (s:Lib.validRune r=true) (t:∀ w,(convert 21 9 (.int .i32 r)).run Tryz.prog w=.ok (.string b) w) (A:b.size=2) (a:∀ h:1<b.size,128<=(b[1]'h).toNat) (w:World):
  Calls Tryz.prog 271 #[.string i8,.int .i32 r] w λe g=>e=.returned (.int .i64 (-1))/\Below w.heap.size w g:=by
 have B:¬(r<128):=by omega
 have C:(0:Int)<=r:=by omega
 have u:i8.size=4:=rfl
 obtain⟨c,l⟩:∃ c:UInt8,b[1]'(by omega)=c:=⟨_,rfl⟩
 have d:128<=c.toNat:=by
  rw[<-l]
  exact a _
 have m:Hid (∀ i w,Calls Tryz.prog 258 #[.string (i8.extract i 4),.int .u8 c.toNat] w λe g=>e=.returned (.int .i64 (-1))/\g=w):=λi w=>ol i c d w
 have j:((33:Int)==(c.toNat:Int))=false:=by
  rw[beq_eq_false_iff_ne]
  omega
 have p:((33:Int) != (c.toNat:Int))=true:=by simpa using j
 have n:∀ w,(Instr.index 9 (.string b) (.int .i64 1)).run Tryz.prog w=.ok (.int .u8 c.toNat) w:=λw=>by
  have:=gt b 1 (by omega) w
  rw[l] at this
  exact this
 have v:∀ w,(Instr.index 9 (.string i8) (.int .i64 1)).run Tryz.prog w=.ok (.int .u8 33) w:=λw=>by kernel_rfl
 have k:∀ w,(binOp .add 3 (.int .i64 1) (.int .i64 1)).run Tryz.prog w=.ok (.int .i64 2) w:=λw=>by kernel_rfl
 have o:∀ w,(Instr.sliceAt 9 (.string i8) (some (.int .i64 2)) none none).run Tryz.prog w=.ok (.string (i8.extract 2 4)) w:=λw=>mF i8 2 (by decide) w
 clear l a j
 go_enter Tryz.func271,Tryz.ntmps271
 go_wp2_with (first | (go_at_call 285;go_must (refine (Tryz.utf8_ValidRune _ _).mono ?_;rintro e g ⟨rfl,rfl⟩;rw[s])))
 apply wp_scope_straight
 go_wp2
 go_loop [9,10] (λi f=>i=.int .i64 1/\f=.int .i64 0) (λ_ _=>0)
 case atStart=>exact⟨rfl,rfl⟩
 case round=>
  obtain⟨rfl,rfl⟩:=hrel
  go_wp2
  apply wp_scope_straight
  go_wp2
  go_quiet (fail)
  go_wp2
  have x:=aw.ne g
  refine bn (by kernel_rfl) (by kernel_rfl) ?_
  iterate 2 (go_big_quiet_step (fail))
  refine eK (.int .i64 2) rfl (λw=>f9 (k w)) ?_
  simp only[Act.put,List.setIfInBounds_toArray,List.set_cons_succ,List.set_cons_zero]
  refine eK (.string (i8.extract 2 4)) rfl (λw=>f9 (o w)) ?_
  simp only[Act.put,List.setIfInBounds_toArray,List.set_cons_succ,List.set_cons_zero]
  iterate 2 (go_big_quiet_step (fail))
  refine eK (.int .u8 c.toNat) rfl (λw=>f9 (n w)) ?_
  simp only[Act.put,List.setIfInBounds_toArray,List.set_cons_succ,List.set_cons_zero]
  repeat (go_big_quiet_step (first | (go_at_call 258;exact Calls.later_same (m.out _ _))))
  refine wpQuiet_nil ?_
  rintro D ⟨⟨_,y⟩,rfl⟩
  go_wp2
  simp only[Exit.noGoto]
  go_wp2
  simp only[Exit.noGoto]
  go_wp2
  go_ret
  exact⟨rfl,Below.trans (Below.drewN_ (Below.refl _ _) _) y⟩
set_option maxHeartbeats 4000000 in
theorem DY (r:Int) (b:ByteArray) (z:128<=r) (q:(r==65533)=false) (s:Lib.validRune r=true) (t:∀ w,(convert 21 9 (.int .i32 r)).run Tryz.prog w=.ok (.string b) w) (A:b.size=3) (a:∀ h:2<b.size,128<=(b[2]'h).toNat) (w:World):
  Calls Tryz.prog 271 #[.string i8,.int .i32 r] w λe g=>e=.returned (.int .i64 (-1))/\Below w.heap.size w g:=by
 have B:¬(r<128):=by omega
 have C:(0:Int)<=r:=by omega
 have u:i8.size=4:=rfl
 obtain⟨c,l⟩:∃ c:UInt8,b[2]'(by omega)=c:=⟨_,rfl⟩
 have d:128<=c.toNat:=by
  rw[<-l]
  exact a _
 have m:Hid (∀ i w,Calls Tryz.prog 258 #[.string (i8.extract i 4),.int .u8 c.toNat] w λe g=>e=.returned (.int .i64 (-1))/\g=w):=λi w=>ol i c d w
 have j:((60:Int)==(c.toNat:Int))=false:=by
  rw[beq_eq_false_iff_ne]
  omega
 have p:((60:Int) != (c.toNat:Int))=true:=by simpa using j
 have n:∀ w,(Instr.index 9 (.string b) (.int .i64 2)).run Tryz.prog w=.ok (.int .u8 c.toNat) w:=λw=>by
  have:=gt b 2 (by omega) w
  rw[l] at this
  exact this
 have v:∀ w,(Instr.index 9 (.string i8) (.int .i64 2)).run Tryz.prog w=.ok (.int .u8 60) w:=λw=>by kernel_rfl
 have k:∀ w,(binOp .add 3 (.int .i64 2) (.int .i64 1)).run Tryz.prog w=.ok (.int .i64 3) w:=λw=>by kernel_rfl
 have o:∀ w,(Instr.sliceAt 9 (.string i8) (some (.int .i64 3)) none none).run Tryz.prog w=.ok (.string (i8.extract 3 4)) w:=λw=>mF i8 3 (by decide) w
 clear l a j
 go_enter Tryz.func271,Tryz.ntmps271
 go_wp2_with (first | (go_at_call 285;go_must (refine (Tryz.utf8_ValidRune _ _).mono ?_;rintro e g ⟨rfl,rfl⟩;rw[s])))
 apply wp_scope_straight
 go_wp2
 go_loop [9,10] (λi f=>i=.int .i64 2/\f=.int .i64 0) (λ_ _=>0)
 case atStart=>exact⟨rfl,rfl⟩
 case round=>
  obtain⟨rfl,rfl⟩:=hrel
  go_wp2
  apply wp_scope_straight
  go_wp2
  go_quiet (fail)
  go_wp2
  have x:=aw.ne g
  refine bn (by kernel_rfl) (by kernel_rfl) ?_
  iterate 2 (go_big_quiet_step (fail))
  refine eK (.int .i64 3) rfl (λw=>f9 (k w)) ?_
  simp only[Act.put,List.setIfInBounds_toArray,List.set_cons_succ,List.set_cons_zero]
  refine eK (.string (i8.extract 3 4)) rfl (λw=>f9 (o w)) ?_
  simp only[Act.put,List.setIfInBounds_toArray,List.set_cons_succ,List.set_cons_zero]
  iterate 2 (go_big_quiet_step (fail))
  refine eK (.int .u8 c.toNat) rfl (λw=>f9 (n w)) ?_
  simp only[Act.put,List.setIfInBounds_toArray,List.set_cons_succ,List.set_cons_zero]
  repeat (go_big_quiet_step (first | (go_at_call 258;exact Calls.later_same (m.out _ _))))
  refine wpQuiet_nil ?_
  rintro D ⟨⟨_,y⟩,rfl⟩
  go_wp2
  simp only[Exit.noGoto]
  go_wp2
  simp only[Exit.noGoto]
  go_wp2
  go_ret
  exact⟨rfl,Below.trans (Below.drewN_ (Below.refl _ _) _) y⟩
set_option maxHeartbeats 4000000 in
theorem Eb (r:Int) (b:ByteArray) (z:128<=r) (q:(r==65533)=false) (s:Lib.validRune r=true) (t:∀ w,(convert 21 9 (.int .i32 r)).run Tryz.prog w=.ok (.string b) w) (A:b.size=4) (a:∀ h:3<b.size,128<=(b[3]'h).toNat) (w:World):
  Calls Tryz.prog 271 #[.string i8,.int .i32 r] w λe d=>e=.returned (.int .i64 (-1))/\Below w.heap.size w d:=by
 have B:¬(r<128):=by omega
 have C:(0:Int)<=r:=by omega
 have u:i8.size=4:=rfl
 obtain⟨c,k⟩:∃ c:UInt8,b[3]'(by omega)=c:=⟨_,rfl⟩
 have l:128<=c.toNat:=by
  rw[<-k]
  exact a _
 have m:Hid (∀ w,Calls Tryz.prog 258 #[.string ByteArray.empty,.int .u8 c.toNat] w λe d=>e=.returned (.int .i64 (-1))/\d=w):=λw=>Tryz.strings_IndexByte ByteArray.empty c.toNat w
 have g:((62:Int)==(c.toNat:Int))=false:=by
  rw[beq_eq_false_iff_ne]
  omega
 have p:((62:Int) != (c.toNat:Int))=true:=by simpa using g
 have n:∀ w,(Instr.index 9 (.string b) (.int .i64 3)).run Tryz.prog w=.ok (.int .u8 c.toNat) w:=λw=>by
  have:=gt b 3 (by omega) w
  rw[k] at this
  exact this
 have v:∀ w,(Instr.index 9 (.string i8) (.int .i64 3)).run Tryz.prog w=.ok (.int .u8 62) w:=λw=>by kernel_rfl
 have j:∀ w,(binOp .add 3 (.int .i64 3) (.int .i64 1)).run Tryz.prog w=.ok (.int .i64 4) w:=λw=>by kernel_rfl
 have o:∀ w,(Instr.sliceAt 9 (.string i8) (some (.int .i64 4)) none none).run Tryz.prog w=.ok (.string ByteArray.empty) w:=λw=>by have:=mF i8 4 (by decide) w;rw[show i8.extract 4 i8.size=ByteArray.empty by decide +kernel] at this;exact this
 clear k a g
 go_enter Tryz.func271,Tryz.ntmps271
 go_wp2_with (first | (go_at_call 285;go_must (refine (Tryz.utf8_ValidRune _ _).mono ?_;rintro e d ⟨rfl,rfl⟩;rw[s])))
 apply wp_scope_straight
 go_wp2
 go_loop [9,10] (λi f=>i=.int .i64 3/\f=.int .i64 0) (λ_ _=>0)
 case atStart=>exact⟨rfl,rfl⟩
 case round=>
  obtain⟨rfl,rfl⟩:=hrel
  go_wp2
  apply wp_scope_straight
  go_wp2
  go_quiet (fail)
  go_wp2
  have x:=aw.ne d
  refine bn (by kernel_rfl) (by kernel_rfl) ?_
  iterate 2 (go_big_quiet_step (fail))
  refine eK (.int .i64 4) rfl (λw=>f9 (j w)) ?_
  simp only[Act.put,List.setIfInBounds_toArray,List.set_cons_succ,List.set_cons_zero]
  refine eK (.string ByteArray.empty) rfl (λw=>f9 (o w)) ?_
  simp only[Act.put,List.setIfInBounds_toArray,List.set_cons_succ,List.set_cons_zero]
  iterate 2 (go_big_quiet_step (fail))
  refine eK (.int .u8 c.toNat) rfl (λw=>f9 (n w)) ?_
  simp only[Act.put,List.setIfInBounds_toArray,List.set_cons_succ,List.set_cons_zero]
  repeat (go_big_quiet_step (first | (go_at_call 258;exact Calls.later_same (m.out _))))
  refine wpQuiet_nil ?_
  rintro D ⟨⟨_,y⟩,rfl⟩
  go_wp2
  simp only[Exit.noGoto]
  go_wp2
  simp only[Exit.noGoto]
  go_wp2
  go_ret
  exact⟨rfl,Below.trans (Below.drewN_ (Below.refl _ _) _) y⟩
set_option maxHeartbeats 4000000 in
theorem sg (r:Int) (k:128<=r) (t:r<=2147483647) (w:World):
  Calls Tryz.prog 271 #[.string i8,.int .i32 r] w λe q=>e=.returned (.int .i64 (-1))/\Below w.heap.size w q:=by
 have u:¬(r<128):=by omega
 have v:(0:Int)<=r:=by omega
 by_cases s:r=65533
 ·subst s
  go_enter Tryz.func271,Tryz.ntmps271
  go_wp2
  have l:∀ i,Below w.heap.size w (w.iter i8 i):=λi=>(Below.refl _ _).alloc (Nat.le_refl _) _
  go_loopw [5,6] (λ_ _ wr=>∃ i,i<=4/\wr=w.iter i8 i) (λ_ _ wr=>4-wr.iterPos w.heap.size)
  case atStart=>exact⟨0,by omega,rfl⟩
  case round=>
   obtain⟨i,x,rfl⟩:=hrel
   have m:i=0\/i=1\/i=2\/i=3\/i=4:=by omega
   rcases m with rfl | rfl | rfl | rfl | rfl
   ·have a:=λc=>run_next_ascii (P:=Tryz.prog) w i8 0 c (by decide) (by decide)
    rw[show (i8[0]'(by decide)).toNat=61 by decide] at a
    go_wp2
    exact⟨⟨1,by omega,rfl⟩,by simp⟩
   ·have a:=λc=>run_next_ascii (P:=Tryz.prog) w i8 1 c (by decide) (by decide)
    rw[show (i8[1]'(by decide)).toNat=33 by decide] at a
    go_wp2
    exact⟨⟨2,by omega,rfl⟩,by simp⟩
   ·have a:=λc=>run_next_ascii (P:=Tryz.prog) w i8 2 c (by decide) (by decide)
    rw[show (i8[2]'(by decide)).toNat=60 by decide] at a
    go_wp2
    exact⟨⟨3,by omega,rfl⟩,by simp⟩
   ·have a:=λc=>run_next_ascii (P:=Tryz.prog) w i8 3 c (by decide) (by decide)
    rw[show (i8[3]'(by decide)).toNat=62 by decide] at a
    go_wp2
    exact⟨⟨4,by omega,rfl⟩,by simp⟩
   ·have a:=run_next_end (P:=Tryz.prog) w i8 4
    have y:¬4<i8.size:=by decide
    go_wp2
    go_ret
    exact⟨rfl,l _⟩
 ·have d:(r==65533)=false:=by simpa using s
  by_cases j:Lib.validRune r=true
  ·have n:Utf8.valid r=true:=by rw[validRune_eq];exact j
   obtain⟨z,A,o⟩:=encode_facts r n k
   have f:∀ w,(convert 21 9 (.int .i32 r)).run Tryz.prog w=.ok (.string (Utf8.encode r)) w:=λw=>run_convert_int_string w _ _ _ _ (by kernel_rfl) Tryz.underlying9
   generalize Utf8.encode r=g at*
   have b:g.size=2\/g.size=3\/g.size=4:=by omega
   rcases b with b | b | b
   ·exact Ee r g k d j f b (λh=>by have:=o (by omega);simp only[b] at this;exact this) w
   ·exact DY r g k d j f b (λh=>by have:=o (by omega);simp only[b] at this;exact this) w
   ·exact Eb r g k d j f b (λh=>by have:=o (by omega);simp only[b] at this;exact this) w
  ·have p:Lib.validRune r=false:=by simpa using j
   go_enter Tryz.func271,Tryz.ntmps271
   go_wp2_with (first | (go_at_call 285;go_must (refine (Tryz.utf8_ValidRune _ _).mono ?_;rintro e q ⟨rfl,rfl⟩;rw[p])))
   go_ret
   exact⟨rfl,Below.refl _ _⟩
end Go.Proofs.YtnpdhopjpjickaaGreatDoor
end
section
set_option linter.all false
set_option maxRecDepth 100000
namespace Go.Proofs.YtnpdhopjpjickaaGreatDoor
open Go.RowKit Go.Maps
theorem zt {s:ByteArray} {i:Nat} (h:Lib.NoAny s.data.toList fk i) (f:i<s.size) (g:128<=(s[i]'f).toNat):Lib.NoAny s.data.toList fk (i+(Utf8.decode s i).2):=by
 intro j b m d
 by_cases k:j<i
 ·exact h j b k d
 ·have a:j<s.size:=by
   have:=(List.getElem?_eq_some_iff.1 d).1
   rw[<-Lib.size_eq] at this
   exact this
  have c:b=s[j]'a:=by
   rw[Lib.data_getElem? s j a] at d
   exact (Option.some.inj d).symm
  apply Cu
  by_cases l:j=i
  ·subst l;rw[c];exact g
  ·have:=xd s i (j-i) (by omega) (by omega)
   rw[show i+(j-i)=j by omega] at this
   rw[c]
   have e:s.get! j=s[j]'a:=get_at s j a
   rw[<-e]
   exact this
set_option maxHeartbeats 4000000 in
theorem rE (s:ByteArray) (R:s.size<=8) (w:World):
  Calls Tryz.prog 257 #[.string s,.string i8] w λe f=>e=.returned (.int .i64 (Lib.indexAny s.data.toList fk))/\Below w.heap.size w f:=by
 have L:i8.size=4:=rfl
 have E:decide ((8:Int)<(s.size:Int))=false:=decide_eq_false (by omega)
 have H:i8.toList.isEmpty=false:=by rw[Lib.toList_data];rfl
 have F:Below w.heap.size w (w.iter s 0):=(Below.refl _ _).alloc (Nat.le_refl _) _
 go_enter Tryz.func257,Tryz.ntmps257
 go_wp2_with (first | (go_at_call 272;go_must (refine (Tryz.strings_shouldUseASCIISet _ _).mono ?_;rintro e f ⟨rfl,I⟩;rw[I,E];clear I)))
 go_loopw [9,10] (λ_ _ wr=>∃ i,Hid (wr.heap[w.heap.size]?=some (.stringIter s i))/\Below w.heap.size w wr/\Hid (Lib.NoAny s.data.toList fk i)) (λ_ _ wr=>s.size-wr.iterPos w.heap.size)
 case atStart=>exact⟨0,World.iter_heap w s 0,F,Lib.NoAny.zero _ _⟩
 case round=>
  obtain⟨i,n,o,D⟩:=hrel
  have u:wr.iterPos w.heap.size=i:=by unfold World.iterPos;rw[n.out]
  have M:=lt_of_block n.out
  by_cases m:i<s.size
  ·obtain⟨x,t⟩:∃ x:UInt8,s[i]'m=x:=⟨_,rfl⟩
   have p:Hid (s.data.toList[i]?=some x):=by rw[<-t];exact Lib.data_getElem? s i m
   by_cases v:x.toNat<128
   ·have q:=λy=>Lib.run_next_ascii_at (P:=Tryz.prog) wr w.heap.size s i y n.out m (by rw[t];exact v)
    rw[t] at q
    have g:Hid ((wr.iterAt w.heap.size s (i+1)).heap[w.heap.size]?=some (.stringIter s (i+1))):=Lib.iterAt_heap wr _ s i (i+1) n.out
    have h:Below w.heap.size w (wr.iterAt w.heap.size s (i+1)):=Lib.below_iterAt o (Nat.le_refl _) _ _
    have a:=Lib.contains_iff_indexByte fk x
    have k:((x.toNat:Int)).toNat.toUInt8=x:=by simp
    generalize wr.iterAt w.heap.size s (i+1)=W at*
    clear t
    cases hin:fk.contains x
    ·rw[hin] at a
     have J:¬((0:Int)<=Lib.indexByte fk x):=of_decide_eq_false a.symm
     have c:Hid (Lib.NoAny s.data.toList fk (i+1)):=D.out.succ p.out hin
     clear a
     have z:Hid (∀ w,Calls Tryz.prog 271 #[.string i8,.int .i32 x.toNat] w λe f=>e=.returned (.int .i64 (Lib.indexByte fk x))/\f=w):=λw=>by
      have:=Tryz.strings_IndexRune_ascii i8 x.toNat w (by omega) (by omega)
      rw[k] at this
      exact this
     generalize Lib.indexByte fk x=N at*
     go_wp2_with (first | (go_at_call 271;go_must (refine (z.out _).mono ?_;rintro e f ⟨rfl,rfl⟩)))
     have l:f.iterPos w.heap.size=i+1:=by unfold World.iterPos;rw[g.out]
     exact⟨⟨i+1,g,h,c⟩,by rw[u,l];omega⟩
    ·rw[hin] at a
     have K:(0:Int)<=Lib.indexByte fk x:=of_decide_eq_true a.symm
     have c:Hid (Lib.indexAny s.data.toList fk=i):=Lib.indexAny_hit D.out p.out hin
     clear a
     have z:Hid (∀ w,Calls Tryz.prog 271 #[.string i8,.int .i32 x.toNat] w λe f=>e=.returned (.int .i64 (Lib.indexByte fk x))/\f=w):=λw=>by
      have:=Tryz.strings_IndexRune_ascii i8 x.toNat w (by omega) (by omega)
      rw[k] at this
      exact this
     generalize Lib.indexByte fk x=N at*
     go_wp2_with (first | (go_at_call 271;go_must (refine (z.out _).mono ?_;rintro e f ⟨rfl,rfl⟩)))
     go_ret
     exact⟨by rw[c.out];rfl,h⟩
   ·have d:128<=(s[i]'m).toNat:=by rw[t];omega
    obtain⟨S,T⟩:=decode_high s i m d
    have U:=decode_le s i
    have c:Hid (Lib.NoAny s.data.toList fk (i+(Utf8.decode s i).2)):=zt D.out m d
    have q:=λy=>Lib.run_next_any_at (P:=Tryz.prog) wr w.heap.size s i y n.out m
    have g:Hid ((wr.iterAt w.heap.size s (i+(Utf8.decode s i).2)).heap[w.heap.size]?=some (.stringIter s (i+(Utf8.decode s i).2))):=Lib.iterAt_heap wr _ s i _ n.out
    have h:Below w.heap.size w (wr.iterAt w.heap.size s (i+(Utf8.decode s i).2)):=Lib.below_iterAt o (Nat.le_refl _) _ _
    generalize wr.iterAt w.heap.size s (i+(Utf8.decode s i).2)=W at*
    have z:Hid (∀ w,Calls Tryz.prog 271 #[.string i8,.int .i32 (Utf8.decode s i).1] w λe f=>e=.returned (.int .i64 (-1))/\Below w.heap.size w f):=λw=>sg _ (by omega) (by omega) w
    generalize (Utf8.decode s i).1=r at*
    generalize (Utf8.decode s i).2=G at*
    clear t d p
    have A:=lt_of_block g.out
    go_wp2_with (first | (go_at_call 271;go_must (refine (z.out _).mono ?_;rintro e f ⟨rfl,B⟩)))
    have C:f.heap[w.heap.size]?=some (.stringIter s (i+G)):=(B.block w.heap.size A).trans g.out
    have l:f.iterPos w.heap.size=i+G:=by unfold World.iterPos;rw[C]
    exact⟨⟨i+G,C,Below.thenOf h B h.size,c⟩,by rw[u,l];omega⟩
  ·have q:=λy=>Lib.run_next_end_at (P:=Tryz.prog) wr w.heap.size s i y n.out m
   have c:Hid (Lib.indexAny s.data.toList fk = -1):=Lib.indexAny_none (λj b O Q=>D.out j b (by rw[<-Lib.size_eq] at O;omega) Q)
   go_wp2
   go_ret
   exact⟨by rw[c.out];rfl,o⟩
theorem uy (s:ByteArray) (d:s.size<4294967281) (w:World):
  Calls Tryz.prog 257 #[.string s,.string i8] w λe c=>e=.returned (.int .i64 (Lib.indexAny s.data.toList fk))/\Below w.heap.size w c:=by
 by_cases f:s.size<=8
 ·exact rE s f w
 ·refine (Tryz.strings_IndexAny_long (λw=>by kernel_rfl) s i8 w (by decide) (by omega) d (by decide) (λj b g=>?_)).mono ?_
  ·have a:=List.mem_of_getElem? g
   rw[wT] at a
   simp[fk] at a
   rcases a with rfl | rfl | rfl | rfl<;>decide
  ·rintro e c ⟨rfl,rfl⟩
   exact⟨rfl,((Below.refl _ _).alloc (Nat.le_refl _) _).alloc (by simp) _⟩
end Go.Proofs.YtnpdhopjpjickaaGreatDoor
end
section
set_option linter.all false
set_option maxRecDepth 100000
namespace Go.Proofs.YtnpdhopjpjickaaGreatDoor
open Go.RowKit Go.Maps
theorem rm {l:Bs} {v:Int} (h:Lib.atoiAll l=.ok v) : -9223372036854775808<=v/\v<=9223372036854775807:=by
 unfold Lib.atoiAll at h
 split at h
 ·cases h
 ·simp only[] at h
  split at h
  ·cases h
  ·cases h
  ·split at h
   ·cases h
   ·split at h
    ·cases h
    ·cases h
     split<;>omega
set_option maxHeartbeats 2000000 in
theorem gX (s:ByteArray) (E:s.size<=4294967280) (w:World) (x:dX w):
  Calls Tryz.prog 184 #[.string s] w λe c=>∃ n ok,e=.returned (.tuple #[.int .i64 n,.bool ok])/\(cS s.data.toList=if ok=true then some n else none)/\wf n/\Below w.heap.size w c:=by
 cases hA:Lib.atoiAll s.data.toList with
 | ok v=>
  obtain⟨B,C⟩:=rm hA
  have b:wf v:=by unfold wf;exact WalkArith.wf_i64 (by omega)
  have l:Hid (∀ c,Below w.heap.size w c->Calls Tryz.prog 107 #[.int .i64 v] c λe y=>e=.returned (.string ⟨(Lib.itoa v).toArray⟩)/\Below c.heap.size c y):=λc m=>
   (Tryz.strconv_Itoa v B C c (x.later m).2.2.2).mono (by rintro e o ⟨rfl,k,F,rfl⟩;exact⟨rfl,Lib.below_grow _ _ (Nat.le_refl _) _ _⟩)
  have d:Hid (Calls Tryz.prog 212 #[.string s] w λe c=>e=.returned (.tuple #[.int .i64 v,.nilIface])/\Below w.heap.size w c):=
   (Tryz.strconv_Atoi_ok s (by omega) v hA w).mono (λe o h=>⟨h.1,by rcases h.2 with rfl | ⟨t,h⟩;(exact Below.refl _ _);(exact jX _ _ _ _ h)⟩)
  have u:Hid (cS s.data.toList=if Lib.itoa v=s.data.toList then some v else none):=by unfold Hid cS;rw[hA]
  have f:=hid b
  clear b hA
  by_cases j:Lib.itoa v=s.data.toList
  ·have D:(Lib.itoa v).toArray=s.data:=by rw[j]
   have g:Hid (cS s.data.toList=some v):=by unfold Hid;rw[u.out,if_pos j]
   clear u j
   go_enter Tryz.func184,Tryz.ntmps184
   go_wp2_with fail
   go_at_call 212
   refine Calls.mono d.out ?_
   rintro e z ⟨rfl,a⟩
   go_wp2_with fail
   go_at_call 107
   refine Calls.mono (l.out _ a) ?_
   rintro e o ⟨rfl,i⟩
   go_wp2_with fail
   go_ret2
   exact⟨v,true,rfl,by rw[g.out];rfl,f.out,Below.thenOf a i a.size⟩
  ·have D:(Lib.itoa v==s.toList)=false:=by
    rw[Lib.toList_data]
    simpa using j
   have g:Hid (cS s.data.toList=none):=by unfold Hid;rw[u.out,if_neg j]
   clear u j
   go_enter Tryz.func184,Tryz.ntmps184
   go_wp2_with fail
   go_at_call 212
   refine Calls.mono d.out ?_
   rintro e z ⟨rfl,a⟩
   go_wp2_with fail
   go_at_call 107
   refine Calls.mono (l.out _ a) ?_
   rintro e o ⟨rfl,i⟩
   go_wp2_with fail
   go_ret2
   exact⟨0,false,rfl,by rw[g.out];rfl,by unfold wf;decide,Below.thenOf a i a.size⟩
 | «syntax»=>
  obtain⟨A,q,r⟩:=x.2.1
  have d:Hid (Calls Tryz.prog 212 #[.string s] w λe c=>∃ n t p,e=.returned (.tuple #[.int .i64 n,.iface t (.pointer (some p))])/\wf n/\Below w.heap.size w c):=
   (Tryz.strconv_Atoi_syntax s (by omega) hA A w q r).mono (by rintro e o ⟨N,rfl,_,_,m⟩;exact⟨0,_,_,rfl,by unfold wf;decide,m⟩)
  have g:Hid (cS s.data.toList=none):=by unfold Hid cS;rw[hA]
  clear hA q r
  go_enter Tryz.func184,Tryz.ntmps184
  go_wp2_with fail
  go_at_call 212
  refine Calls.mono d.out ?_
  rintro e z ⟨n,t,p,rfl,b,a⟩
  have f:=hid b
  clear b
  go_wp2_with fail
  go_ret2
  exact⟨0,false,rfl,by rw[g.out];rfl,by unfold wf;decide,a⟩
 | range=>
  obtain⟨A,q,r⟩:=x.2.2.1
  have d:Hid (Calls Tryz.prog 212 #[.string s] w λe c=>∃ n t p,e=.returned (.tuple #[.int .i64 n,.iface t (.pointer (some p))])/\wf n/\Below w.heap.size w c):=
   (Tryz.strconv_Atoi_range s (by omega) hA A w q r).mono (by rintro e o ⟨N,rfl,_,_,m⟩;exact⟨_,_,_,rfl,by unfold wf Lib.atoiSat;split<;>decide,m⟩)
  have g:Hid (cS s.data.toList=none):=by unfold Hid cS;rw[hA]
  clear hA q r
  go_enter Tryz.func184,Tryz.ntmps184
  go_wp2_with fail
  go_at_call 212
  refine Calls.mono d.out ?_
  rintro e z ⟨n,t,p,rfl,b,a⟩
  have f:=hid b
  clear b
  go_wp2_with fail
  go_ret2
  exact⟨0,false,rfl,by rw[g.out];rfl,by unfold wf;decide,a⟩
def eP (l:Bs):ByteArray:=⟨l.toArray⟩
theorem pP:∀ (a:List Bs) (x:ByteArray),Lib.idxOfS (a.map eP) x=bI a x.data.toList:=by
 have c:∀ (a:List Bs) (x:ByteArray) (i:Nat),Lib.idxFromS (a.map eP) x i=if bI a x.data.toList = -1 then -1 else bI a x.data.toList+i:=by
  intro a x
  induction a with
  | nil=>intro i;simp[Lib.idxFromS,bI]
  | cons n r f=>
   intro i
   have g:=kU r x.data.toList
   have b:(eP n=x) ↔ n=x.data.toList:=by
    constructor
    ·intro h;rw[<-h];simp[eP]
    ·intro h;rw[h];cases x;simp[eP]
   rw[List.map_cons,Lib.idxFromS,f (i+1),bI]
   by_cases h:n=x.data.toList
   ·rw[if_pos (b.2 h),if_pos h]
    simp
   ·have j:¬(eP n=x):=λe=>h (b.1 e)
    simp only[h,j,if_false]
    by_cases d:bI r x.data.toList = -1
    ·simp[d]
    ·simp only[d,if_false]
     split<;>omega
 intro a x
 have:=c a x 0
 unfold Lib.idxOfS
 rw[this]
 split
 ·rename_i h;exact h.symm
 ·simp
end Go.Proofs.YtnpdhopjpjickaaGreatDoor
end
