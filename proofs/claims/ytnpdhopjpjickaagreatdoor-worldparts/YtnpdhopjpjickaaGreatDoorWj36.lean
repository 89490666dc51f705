/- Joined: Dsk7 Dsk8 Dsk9 DskA DskB DkP. -/
import Derived.Test.YtnpdhopjpjickaaGreatDoorWj29
import Derived.Lib.ConvBytes
import Derived.Lib.UnsafeStr
import Derived.Test.YtnpdhopjpjickaaGreatDoorWj35
section
set_option linter.all false
set_option maxRecDepth 100000
namespace Go.Proofs.YtnpdhopjpjickaaGreatDoor
open Go.RowKit Go.Maps
theorem ue:∀ (ts:List Bs) (aF:Nat),(jS aF ts).1.length<=aF
 | [],aF=>by rw[tR];exact Nat.zero_le _
 | t :: ts,aF=>by
  unfold jS
  split
  ·exact Nat.zero_le _
  ·split
   ·split
    ·cases aF with
     | zero=>exact Nat.le_refl _
     | succ m=>simp only[List.length_cons];have:=ue ts m;omega
    ·exact Nat.zero_le _
   ·exact Nat.zero_le _
theorem rK (aF:Nat) (s:Bs):(aI aF s).1.length<=aF:=ue _ _
theorem pW:∀ (ts:List Bs) (aF:Nat),(jS aF ts).2.1<=ts.flatten.length
 | [],aF=>by rw[tR];exact Nat.zero_le _
 | t :: ts,aF=>by
  unfold jS
  split
  ·exact Nat.zero_le _
  ·split
   ·split
    ·cases aF with
     | zero=>exact Nat.zero_le _
     | succ m=>simp only[List.flatten_cons,List.length_append];have:=pW ts m;omega
    ·exact Nat.zero_le _
   ·exact Nat.zero_le _
theorem qh:∀ (k:Nat) (s:Bs),(it k s).flatten=s
 | 0,s=>by unfold it;simp
 | k+1,s=>by
  unfold it
  cases h:fU s with
  | none=>simp
  | some x=>
   obtain⟨a,t⟩:=x
   simp only[List.flatten_cons,qh k t]
   rw[(gm h).1]
   simp
theorem vf (aF:Nat) (s:Bs):(aI aF s).2.1<=s.length:=by
 have:=pW (it s.length s) aF
 rw[qh] at this
 exact this
def km (d:bA):List al × Nat × Int:=aI (40-(aI 40 d.1).1.length) d.2
def px (d:bA):Bs:=d.1++d.2.take (km d).2.1
def ph (d:bA):List al:=(aI 40 d.1).1++(km d).1
def fQ (w:World) (k:Nat):Prop:=∀ (o:Nat) (K:IntKind) (x:Int),w.cell? ⟨k,o,none⟩≠some (.int K x)
theorem fQ.of {w:World} {k n m:Nat} {a b:Option Addr} {c d:Nat} {T:TypeId} {f:Nat × Nat} (h:w.heap[k]?=some (.cells #[.slice a n c,.slice b m d] T f)):fQ w k:=by
 intro o K x e
 match o with
 | 0=>rw[ab h 0 rfl] at e;cases e
 | 1=>rw[ab h 1 rfl] at e;cases e
 | o+2=>simp[World.cell?,h] at e
def fS (k:Nat) (w w':World):Prop:=∀ b,b≠k->w'.heap[b]?=w.heap[b]?
theorem fS.cell {k:Nat} {w w':World} (h:fS k w w') (c:fQ w k) {b o:Nat} {K:IntKind} {x:Int} (a:w.cell? ⟨b,o,none⟩=some (.int K x)):w'.cell? ⟨b,o,none⟩=some (.int K x):=by
 have d:b≠k:=λe=>by subst e;exact c _ _ _ a
 unfold World.cell? at a |-
 rw[h b d]
 exact a
theorem fS.near {k:Nat} {w w':World} (h:fS k w w') (d:fQ w k) {b o a:Nat} {K:IntKind} {x:Int} (f:w.cell? ⟨b,o,none⟩=some (.int K x)) {v:Value} (c:w.cell? ⟨b,a,none⟩=some v):w'.cell? ⟨b,a,none⟩=some v:=by
 have g:b≠k:=λe=>by subst e;exact d _ _ _ f
 unfold World.cell? at c |-
 rw[h b g]
 exact c
theorem cV.box {B k:Nat} {w w':World} {v:Value} {r:al} (h:cV B w v r) (d:fS k w w') (f:fQ w k):cV B w' v r:=by
 obtain⟨p,q,s,t,u,l,e,x,a,m,y,z,A,C⟩:=h
 refine⟨p,q,s,t,u,l,e,x,a,m,y,z,A,λi r D=>?_⟩
 obtain⟨b,o,E,F,G,H,n,I,J,g,K,L,M,N⟩:=C i r D
 refine⟨b,o,E,F,G,d.near f n H,d.cell f n,I,J,g,K,L,M,λj c O=>?_⟩
 obtain⟨P,Q,R,S,T,U,V,W⟩:=N j c O
 exact⟨P,Q,R,S,d.cell f T,d.cell f U,d.cell f V,W⟩
theorem bX.box {B k:Nat} {w w':World} {v:Value} {g:List al} (h:bX B w v g) (c:fS k w w') (d:fQ w k):bX B w' v g:=by
 obtain⟨a,f,l,m,n,p⟩:=h
 refine⟨a,f,l,m,n,λi r q=>?_⟩
 obtain⟨b,o,e,s,t,j,u,x,y,z,A⟩:=p i r q
 exact⟨b,o,e,s,t,c.cell d j,c.cell d u,c.cell d x,c.near d j y,c.cell d z,A.box c d⟩
theorem aJ.box {B k:Nat} {w w':World} {v:Value} {bs:Bs} (h:aJ B w v bs) (f:fS k w w') (j:fQ w k):aJ B w' v bs:=by
 obtain⟨a,d,l,m,n,p⟩:=h
 refine⟨a,d,l,m,n,λi b q=>?_⟩
 obtain⟨g,o,e,r,c⟩:=p i b q
 exact⟨g,o,e,r,f.cell j c⟩
def za (w:World) (u a b:Value):Prop:=∃ g T c,u=.slice (some ⟨g,0,none⟩) 2 2/\w.heap[g]?=some (.cells #[a,b] T c)
theorem za.later {w w':World} {u a b:Value} (h:za w u a b) (d:Below w.heap.size w w'):za w' u a b:=by
 obtain⟨g,T,f,e,c⟩:=h
 exact⟨g,T,f,e,(d.block g (lt_of_block c)).trans c⟩
structure CZ (L:Nat) (W:World) (sv tv lv mv:Value) (R:Bs) (Q:List al) (fs:Nat->Value->Prop) (w:World):Prop where
 below:Below W.heap.size W w
 lit6:∀ u,fs 6 u->za w u sv tv
 row7:∀ u,fs 7 u->aJ w.heap.size w u R
 lit11:∀ u,fs 11 u->za w u lv mv
 row12:∀ u,fs 12 u->bX w.heap.size w u Q/\C2 L w u Q
 need:∀ u,fs 12 u->∃ v,fs 11 v
theorem CZ.later {L:Nat} {W w w':World} {sv tv lv c:Value} {R:Bs} {Q:List al} {d:Nat->Value->Prop} (h:CZ L W sv tv lv c R Q d w) (a:Below w.heap.size w w'):CZ L W sv tv lv c R Q d w':=
 ⟨Below.thenOf h.below a h.below.size,λu b=>(h.lit6 u b).later a,λu b=>((h.row7 u b).later a (Nat.le_refl _)).wide a.size,λu b=>(h.lit11 u b).later a,λu b=>⟨((h.row12 u b).1.later a (Nat.le_refl _)).wide a.size,(h.row12 u b).2.later a⟩,h.need⟩
theorem eo {b:Nat->Value->Prop} {k m:Nat} {v u:Value} (h:bW b k v m u) (a:m≠k):b m u:=by
 rcases h with h | ⟨h,_⟩
 ·exact h
 ·exact absurd h a
theorem CZ.put6 {L:Nat} {W w:World} {sv tv lv b:Value} {R:Bs} {Q:List al} {c:Nat->Value->Prop} (h:CZ L W sv tv lv b R Q c w) (v:Value) (d:za w v sv tv):CZ L W sv tv lv b R Q (bW c 6 v) w:=
 ⟨h.below,λu a=>by
  rcases a with a | ⟨_,rfl⟩
  ·exact h.lit6 u a
  ·exact d,λu a=>h.row7 u (eo a (by decide)),λu a=>h.lit11 u (eo a (by decide)),λu a=>h.row12 u (eo a (by decide)),λu a=>by
  obtain⟨x,e⟩:=h.need u (eo a (by decide))
  exact⟨x,.inl e⟩⟩
def Bd (b:Nat) (W:World) (sv tv lv d:Value) (R:Bs) (Q:List al) (a:Nat->Value->Prop) (w:World):Prop:=
 ((∀ u,¬a 13 u)/\CZ (b+1) W sv tv lv d R Q a w)\/((∃ u,a 13 u)/\(∃ u,a 6 u)/\(∃ u,a 7 u)/\(∃ u,a 11 u)/\(∃ u,a 12 u)/\∃ c e,w=(c.setCell ⟨b,0,none⟩ e).setCell ⟨b,1,none⟩ (.slice none 0 0)/\aJ c.heap.size c e R/\CZ (b+1) W sv tv lv d R Q (λk u=>k≠13/\a k u) c)
theorem Bd.start (a:Nat) (W:World) (sv tv lv b:Value) (R:Bs) (Q:List al):Bd a W sv tv lv b R Q (λ_ _=>False) W.drew:=
 .inl ⟨λ_ h=>h,(Below.refl _ _).drew,λ_ h=>h.elim,λ_ h=>h.elim,λ_ h=>h.elim,λ_ h=>h.elim,λ_ h=>h.elim⟩
theorem Bd.ahead {g:Nat} {W w:World} {sv tv lv i:Value} {R:Bs} {Q:List al} {f:Nat->Value->Prop} (h:Bd g W sv tv lv i R Q f w) {k:Nat} (j:k=6\/k=7\/k=11\/k=12) (e:∀ v,¬f k v):(∀ u,¬f 13 u)/\CZ (g+1) W sv tv lv i R Q f w:=by
 rcases h with h | ⟨_,⟨a,l⟩,⟨b,m⟩,⟨c,n⟩,⟨d,o⟩,_⟩
 ·exact h
 ·rcases j with rfl | rfl | rfl | rfl
  ·exact absurd l (e _)
  ·exact absurd m (e _)
  ·exact absurd n (e _)
  ·exact absurd o (e _)
theorem Bd.of {c:Nat} {W w:World} {sv tv lv d:Value} {R:Bs} {Q:List al} {a:Nat->Value->Prop} {k:Nat} {v:Value} (b:∀ u,¬a 13 u) (e:k≠13) (h:CZ (c+1) W sv tv lv d R Q (bW a k v) w):Bd c W sv tv lv d R Q (bW a k v) w:=
 .inl ⟨λu f=>b u (eo f (Ne.symm e)),h⟩
theorem Bd.stored {f:Nat} {W w:World} {sv tv lv l:Value} {R:Bs} {Q:List al} {b:Nat->Value->Prop} {n g i:Value} (h:Bd f W sv tv lv l R Q b w) (j:∀ v,¬b 13 v) (o:b 6 n) (m:b 7 g) (c:b 12 i):Below W.heap.size W w/\Bd f W sv tv lv l R Q (bW b 13 undef) ((w.setCell ⟨f,0,none⟩ g).setCell ⟨f,1,none⟩ (.slice none 0 0)):=by
 rcases h with ⟨_,h⟩ | ⟨⟨x,d⟩,_⟩
 ·refine⟨h.below,.inr ⟨⟨_,.inr ⟨rfl,rfl⟩⟩,⟨_,.inl o⟩,⟨_,.inl m⟩,?_,⟨_,.inl c⟩,w,g,rfl,h.row7 g m,?_⟩⟩
  ·obtain⟨x,d⟩:=h.need _ c
   exact⟨x,.inl d⟩
  ·have e:∀ {k u},k≠13/\bW b 13 undef k u->b k u:=λ⟨p,q⟩=>eo q p
   refine⟨h.below,λu a=>h.lit6 u (e a),λu a=>h.row7 u (e a),λu a=>h.lit11 u (e a),λu a=>h.row12 u (e a),λu a=>?_⟩
   obtain⟨x,d⟩:=h.need u (e a)
   exact⟨x,by decide,.inl d⟩
 ·exact absurd d (j _)
theorem Bd.done {e:Nat} {W w:World} {sv tv lv B:Value} {R:Bs} {Q:List al} {t:Nat->Value->Prop} {f u:Value} (h:Bd e W sv tv lv B R Q t w) (o:t 12 f) (v:t 13 u) {a b:Option Addr} {n c m d:Nat} {T:TypeId} (q:W.heap[e]?=some (.cells #[.slice a n c,.slice b m d] T (0,0))):∃ k,w.heap[e]?=some (.cells #[k,.slice none 0 0] T (0,0))/\ei w.heap.size w (.agg #[k,.slice none 0 0]) (R,[])/\bX w.heap.size w f Q/\C2 (e+1) w f Q/\∀ L,L<=e->L<=W.heap.size->Below L W w:=by
 rcases h with ⟨h,_⟩ | ⟨_,_,_,_,_,l,k,rfl,C,s⟩
 ·exact absurd v (h _)
 ·have r:l.heap[e]?=some (.cells #[.slice a n c,.slice b m d] T (0,0)):=(s.below.block e (lt_of_block q)).trans q
  have x:fS e l ((l.setCell ⟨e,0,none⟩ k).setCell ⟨e,1,none⟩ (.slice none 0 0)):=λg y=>(Below.heap_setCell _ _ _ _ y).trans (Below.heap_setCell _ _ _ _ y)
  have z:fQ l e:=fQ.of r
  have j:((l.setCell ⟨e,0,none⟩ k).setCell ⟨e,1,none⟩ (.slice none 0 0)).heap.size=l.heap.size:=by simp
  refine⟨k,?_,?_,?_,?_,λL A D=>?_⟩
  ·rw[an (an r)]
   rfl
  ·rw[j]
   exact⟨_,_,rfl,C.box x z,none,0,rfl,Nat.le_refl _,Nat.zero_le _,λi b E=>by simp at E⟩
  ·rw[j]
   exact (s.row12 f ⟨by decide,o⟩).1.box x z
  ·exact (s.row12 f ⟨by decide,o⟩).2.keep (λg y _=>x g (by omega)) (by rw[j];exact Nat.le_refl _)
  ·exact ((s.below.mono D).setCell (p:=⟨e,0,none⟩) A _).setCell (p:=⟨e,1,none⟩) A _
theorem Bd.cells {d b:Nat} {W w:World} {sv tv lv i:Value} {R:Bs} {Q:List al} {j:Nat->Value->Prop} (h:Bd d W sv tv lv i R Q j w) {e f:Value} {T:TypeId} {g:Nat × Nat} (a:W.heap[b]?=some (.cells #[e,f] T g)) (c:b≠d):w.heap[b]?=some (.cells #[e,f] T g):=by
 rcases h with ⟨_,h⟩ | ⟨_,_,_,_,_,l,m,rfl,n,k⟩
 ·exact (h.below.block b (lt_of_block a)).trans a
 ·exact ((Below.heap_setCell _ _ _ _ c).trans (Below.heap_setCell _ _ _ _ c)).trans ((k.below.block b (lt_of_block a)).trans a)
end Go.Proofs.YtnpdhopjpjickaaGreatDoor
end
section
set_option linter.all false
set_option maxRecDepth 100000
namespace Go.Proofs.YtnpdhopjpjickaaGreatDoor
open Go.RowKit Go.Maps
def y8 (a:Nat) (sv tv:Value):Type:={ w':World // w'.cell? ⟨a,0,none⟩=some sv/\w'.cell? ⟨a,1,none⟩=some tv }
end Go.Proofs.YtnpdhopjpjickaaGreatDoor
end
section
set_option linter.all false
set_option maxRecDepth 100000
namespace Go.Proofs.YtnpdhopjpjickaaGreatDoor
open Go.RowKit Go.Maps
def Cf (d:bA):Int:=az (d.1++d.2,[])
theorem lJ (B:Nat) (w:World):aJ B w (.slice none 0 0) []:=⟨none,0,rfl,Nat.le_refl _,Nat.zero_le _,λi b a=>by simp at a⟩
theorem aO {w:World} {k:Nat} {x y:Value} {T:TypeId} (h:w.heap[k]?=some (.cells #[x,y] T (0,0))):w.cell? ⟨k,0,none⟩=some x/\w.cell? ⟨k,1,none⟩=some y/\w.frozen? ⟨k,0,none⟩=false/\w.frozen? ⟨k,1,none⟩=false:=
 ⟨ab h 0 rfl,ab h 1 rfl,by simp[World.frozen?,h],by simp[World.frozen?,h]⟩
theorem gJ {w:World} {k:Nat} {x y u v:Value} {T:TypeId} (h:w.heap[k]?=some (.cells #[x,y] T (0,0))):((w.setCell ⟨k,0,none⟩ u).setCell ⟨k,1,none⟩ v).heap[k]?=some (.cells #[u,v] T (0,0))/\fS k w ((w.setCell ⟨k,0,none⟩ u).setCell ⟨k,1,none⟩ v)/\((w.setCell ⟨k,0,none⟩ u).setCell ⟨k,1,none⟩ v).heap.size=w.heap.size:=by
 refine⟨?_,λg a=>(Below.heap_setCell _ _ _ _ a).trans (Below.heap_setCell _ _ _ _ a),by simp⟩
 rw[an (an h)]
 rfl
end Go.Proofs.YtnpdhopjpjickaaGreatDoor
end
section
set_option linter.all false
set_option maxRecDepth 100000
namespace Go.Proofs.YtnpdhopjpjickaaGreatDoor
open Go.RowKit Go.Maps
theorem wN {n:Int} (h:0<=n/\n<=3):(Lib.itoa n).length<=4:=by
 unfold Lib.itoa
 rw[if_neg (by omega)]
 have:=jD n.toNat
 omega
theorem DU (k:Nat):(kN.getD k []).length<=5:=by
 match k with
 | 0=>decide
 | 1=>decide
 | 2=>decide
 | 3=>decide
 | k+4=>simp[kN]
theorem yb (r:al):(gL r).length<=100000000:=by
 unfold gL
 split
 ·rename_i h
  unfold bF at h
  split at h
  ·cases h
  ·split at h
   ·cases h
   ·rename_i b
    split at h
    ·cases h
    ·have c:=wN (n:=r.2.1) (by omega)
     have d:=wN (n:=r.2.2.1) (by omega)
     have e:=DU (r.1-1).toNat
     unfold aG
     split at h
     ·have a:=kR h
      have f:=ii r.2.2.2.1 a.2.2
      have g:=jW r.2.2.2.2
      have i:(cM r.2.2.2).length<=96000005:=by unfold cM;rw[List.length_append];omega
      rw[if_neg (by omega),if_neg (by omega)]
      simp only[List.length_append,List.length_cons]
      omega
     ·split
      ·simp only[List.length_append,List.length_cons]
       omega
      ·rw[if_pos (by omega)]
       simp only[List.length_append,List.length_cons,List.length_nil]
       omega
 ·exact Nat.zero_le _
def BW (d:bA) (r:al):Int:=if bF r=0 then (if 60000<d.1.length+d.2.length+(gL r).length+1 then 2 else 0) else bF r
theorem zo (s:ByteArray) (w:World) (f:s.size<=140737488355328):∃ a c,(convert 9 23 (.string s)).run Tryz.prog w=.ok (.slice (some ⟨w.heap.size,0,none⟩) s.size a) c/\aJ c.heap.size c (.slice (some ⟨w.heap.size,0,none⟩) s.size a) s.data.toList/\Below w.heap.size w c:=by
 refine⟨_,_,Lib.run_convert_string_bytes w 9 23 5 s Tryz.underlying9 Tryz.underlying23 Tryz.underlying5,?_,?_⟩
 ·refine⟨some ⟨w.heap.size,0,none⟩,_,by rw[<-Lib.size_eq],?_,?_,λi b d=>?_⟩
  ·rw[<-Lib.size_eq];exact grownCap_ge w _ _ _
  ·exact grownCap_le_maxLen w _ 0 _ (by rw[ag];omega)
  ·refine⟨w.heap.size,0,rfl,by rw[Lib.bytesWorld_size];omega,?_⟩
   have e:i<s.size:=by rw[Lib.size_eq];exact (List.getElem?_eq_some_iff.1 d).1
   rw[Nat.zero_add,Lib.bytesWorld_cell w _ s i e]
   simp[List.getD,d]
 ·unfold Lib.bytesWorld
  exact Lib.below_freeze ((Below.refl _ _).drew.alloc (Nat.le_refl _) _) (p:=⟨w.heap.size,_,none⟩) (Nat.le_refl _) _
structure D4 (W:World) (tv:Value) (X R:Bs) (fs:Nat->Value->Prop) (w:World):Prop where
 below:Below W.heap.size W w
 row6:∀ u,fs 6 u->aJ w.heap.size w u X
 lit7:∀ u,fs 7 u->∃ v,aJ w.heap.size w v X/\za w u tv v
 row8:∀ u,fs 8 u->aJ w.heap.size w u R
theorem D4.later {W w w':World} {tv:Value} {X R:Bs} {c:Nat->Value->Prop} (h:D4 W tv X R c w) (a:Below w.heap.size w w'):D4 W tv X R c w':=
 ⟨Below.thenOf h.below a h.below.size,λu b=>((h.row6 u b).later a (Nat.le_refl _)).wide a.size,λu b=>by
  obtain⟨v,d,e⟩:=h.lit7 u b
  exact⟨v,(d.later a (Nat.le_refl _)).wide a.size,e.later a⟩,λu b=>((h.row8 u b).later a (Nat.le_refl _)).wide a.size⟩
theorem D4.put6 {W w:World} {tv:Value} {X R:Bs} {b:Nat->Value->Prop} (h:D4 W tv X R b w) (v:Value) (c:aJ w.heap.size w v X):D4 W tv X R (bW b 6 v) w:=
 ⟨h.below,λu a=>by
  rcases a with a | ⟨_,rfl⟩
  ·exact h.row6 u a
  ·exact c,λu a=>h.lit7 u (eo a (by decide)),λu a=>h.row8 u (eo a (by decide))⟩
def AP (c:Nat) (W:World) (sv tv:Value) (X R:Bs) (a:Nat->Value->Prop) (w:World):Prop:=
 ((∀ u,¬a 10 u)/\D4 W tv X R a w)\/((∃ u,a 10 u)/\(∃ u,a 6 u)/\(∃ u,a 7 u)/\(∃ u,a 8 u)/\∃ b d,w=(b.setCell ⟨c,0,none⟩ sv).setCell ⟨c,1,none⟩ d/\aJ b.heap.size b d R/\Below W.heap.size W b)
theorem AP.start (a:Nat) (W:World) (sv tv:Value) (X R:Bs):AP a W sv tv X R (λ_ _=>False) W.drew:=
 .inl ⟨λ_ h=>h,(Below.refl _ _).drew,λ_ h=>h.elim,λ_ h=>h.elim,λ_ h=>h.elim⟩
theorem AP.ahead {g:Nat} {W w:World} {sv tv:Value} {X R:Bs} {f:Nat->Value->Prop} (h:AP g W sv tv X R f w) {k:Nat} (i:k=6\/k=7\/k=8\/k=10) (e:∀ v,¬f k v):(∀ u,¬f 10 u)/\D4 W tv X R f w:=by
 rcases h with h | ⟨⟨a,j⟩,⟨b,l⟩,⟨c,m⟩,⟨d,n⟩,_⟩
 ·exact h
 ·rcases i with rfl | rfl | rfl | rfl
  ·exact absurd l (e _)
  ·exact absurd m (e _)
  ·exact absurd n (e _)
  ·exact absurd j (e _)
theorem AP.of {c:Nat} {W w:World} {sv tv:Value} {X R:Bs} {a:Nat->Value->Prop} {k:Nat} {v:Value} (b:∀ u,¬a 10 u) (d:k≠10) (h:D4 W tv X R (bW a k v) w):AP c W sv tv X R (bW a k v) w:=
 .inl ⟨λu e=>b u (eo e (Ne.symm d)),h⟩
theorem AP.stored {b:Nat} {W w:World} {sv tv:Value} {X R:Bs} {a:Nat->Value->Prop} {f g c:Value} (h:AP b W sv tv X R a w) (d:∀ v,¬a 10 v) (i:a 6 f) (j:a 7 g) (e:a 8 c):Below W.heap.size W w/\AP b W sv tv X R (bW a 10 undef) ((w.setCell ⟨b,0,none⟩ sv).setCell ⟨b,1,none⟩ c):=by
 obtain⟨_,h⟩:=h.ahead (.inr (.inr (.inr rfl))) d
 exact⟨h.below,.inr ⟨⟨_,.inr ⟨rfl,rfl⟩⟩,⟨_,.inl i⟩,⟨_,.inl j⟩,⟨_,.inl e⟩,w,c,rfl,h.row8 c e,h.below⟩⟩
theorem AP.done {B e:Nat} {W w:World} {sv tv:Value} {X R s:Bs} {o:Nat->Value->Prop} {k:Value} (h:AP e W sv tv X R o w) (l:o 10 k) {a b:Option Addr} {n c m d:Nat} {T:TypeId} (f:W.heap[e]?=some (.cells #[.slice a n c,.slice b m d] T (0,0))) (z:aJ B W sv s) (q:B<=W.heap.size):∃ g,w.heap[e]?=some (.cells #[sv,g] T (0,0))/\ei w.heap.size w (.agg #[sv,g]) (s,R)/\∀ L,L<=e->L<=W.heap.size->Below L W w:=by
 rcases h with ⟨h,_⟩ | ⟨_,_,_,_,r,g,rfl,A,j⟩
 ·exact absurd l (h _)
 ·have i:r.heap[e]?=some (.cells #[.slice a n c,.slice b m d] T (0,0)):=(j.block e (lt_of_block f)).trans f
  obtain⟨C,t,D⟩:=gJ (u:=sv) (v:=g) i
  have x:fQ r e:=fQ.of i
  refine⟨g,C,?_,λL y E=>((j.mono E).setCell (p:=⟨e,0,none⟩) y _).setCell (p:=⟨e,1,none⟩) y _⟩
  rw[D]
  exact⟨_,_,rfl,((z.later j q).wide (Nat.le_trans q j.size)).box t x,A.box t x⟩
theorem AP.cells {d b:Nat} {W w:World} {sv tv:Value} {X R:Bs} {i:Nat->Value->Prop} (h:AP d W sv tv X R i w) {e f:Value} {T:TypeId} {g:Nat × Nat} (a:W.heap[b]?=some (.cells #[e,f] T g)) (c:b≠d):w.heap[b]?=some (.cells #[e,f] T g):=by
 rcases h with ⟨_,h⟩ | ⟨_,_,_,_,k,l,rfl,m,j⟩
 ·exact (h.below.block b (lt_of_block a)).trans a
 ·exact ((Below.heap_setCell _ _ _ _ c).trans (Below.heap_setCell _ _ _ _ c)).trans ((j.block b (lt_of_block a)).trans a)
end Go.Proofs.YtnpdhopjpjickaaGreatDoor
end
section
set_option linter.all false
set_option maxRecDepth 100000
namespace Go.Proofs.YtnpdhopjpjickaaGreatDoor
open Go.RowKit Go.Maps
theorem Dm (p:Bs):eP p++⟨#[10]⟩=eP (p++[10]):=by
 unfold eP
 apply ByteArray.ext
 simp[ByteArray.data_append]
end Go.Proofs.YtnpdhopjpjickaaGreatDoor
end
section
set_option linter.all false
set_option maxRecDepth 100000
namespace Go.Proofs.YtnpdhopjpjickaaGreatDoor
open Go.RowKit Go.Maps
def eH (d:bA) (r:al):Int:=if az d=0 then BW d r else az d
def f6 (d:bA) (r:al):bA:=if eH d r=0 then (d.1,d.2++(gL r++[10])) else ([],[])
def eX (d:bA):Int:=if az d=0 then Cf d else az d
def gN (d:bA):bA:=if eX d=0 then (d.1++d.2,[]) else ([],[])
def ft (d:bA) (n:Int):Int:=if az d=0 then (if n<0\/(d.2.length:Int)<n then 3 else 0) else az d
def iF (d:bA) (n:Int):bA:=if ft d n=0 then (d.1,d.2.take n.toNat) else ([],[])
def fX (d:bA):bA:=if az d=0 then (px d,[]) else ([],[])
def cR (d:bA):List al:=if az d=0 then ph d else []
theorem dK {d:bA} (h:az d=0):d.1.length<=60000/\d.2.length<=60000/\d.1.length+d.2.length<=60000/\(aI 40 d.1).2.2=0:=by
 unfold az at h
 split at h
 ·cases h
 ·exact⟨by omega,by omega,by omega,h⟩
def lm (d:bA):Prop:=d.1.length+d.2.length<=300000000000000
theorem vW {d:bA} (h:az d=0):lm d:=by
 have:=dK h
 unfold lm
 omega
theorem Du {d:bA} {r:al}:lm (f6 d r):=by
 unfold f6
 by_cases h:eH d r=0
 ·rw[if_pos h]
  unfold eH at h
  by_cases a:az d=0
  ·rw[if_pos a] at h
   unfold BW at h
   by_cases b:bF r=0
   ·rw[if_pos b] at h
    by_cases c:60000<d.1.length+d.2.length+(gL r).length+1
    ·rw[if_pos c] at h
     cases h
    ·unfold lm
     simp only[List.length_append,List.length_cons,List.length_nil]
     omega
   ·rw[if_neg b] at h
    exact absurd h b
  ·rw[if_neg a] at h
   exact absurd h a
 ·rw[if_neg h]
  unfold lm
  decide
theorem yJ {d:bA} (b:d.1.length+d.2.length<=60000) (a:(aI 40 d.1).2.2=0):az d=0:=by
 unfold az
 rw[if_neg (by omega)]
 exact a
def bL (L:Nat) (w:World) (v:Value) (d:bA):Prop:=∀ a:World,(∀ g,L<=g->g<w.heap.size->a.heap[g]?=w.heap[g]?)->w.heap.size<=a.heap.size->ei a.heap.size a v d
theorem bL.at {L:Nat} {w:World} {v:Value} {d:bA} (h:bL L w v d):ei w.heap.size w v d:=h w (λ_ _ _=>rfl) (Nat.le_refl _)
end Go.Proofs.YtnpdhopjpjickaaGreatDoor
end
