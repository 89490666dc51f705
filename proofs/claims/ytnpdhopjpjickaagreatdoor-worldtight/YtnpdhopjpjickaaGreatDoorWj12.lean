/- Joined: Made Open PtC Mee1 PtD0 Cpt0 PtD1. -/
import Derived.Test.YtnpdhopjpjickaaGreatDoorWj05
import Derived.Test.YtnpdhopjpjickaaGreatDoorWj03
import Derived.Test.YtnpdhopjpjickaaGreatDoorWj07
import Derived.Test.YtnpdhopjpjickaaGreatDoorRows
import Derived.ProofKit
import Derived.OpenShut
import Derived.ShutString
import Derived.ChangeOld
import Derived.Below
import Derived.Deep.SlicePairs
import Derived.Deep.Strs
import Derived.Test.YtnpdhopjpjickaaGreatDoorWj09
import Derived.Laws.StructEq
import Derived.Test.YtnpdhopjpjickaaGreatDoorWj11
import Derived.Lib.SlicesCompact
import Derived.Test.YtnpdhopjpjickaaGreatDoorWj01
section
set_option linter.all false
namespace Go.Proofs.YtnpdhopjpjickaaGreatDoor
open Go.RowKit Go.Maps
def qX:ByteArray:=⟨#[107,105,108,108,32,110,114,61,51,32,97,60,53,59,108,111,103,32,107,105,110,100,33,48,59,97,108,108,111,119]⟩
def yC:List ai:=[([(0,1,3),(2,3,5)],0),([(1,2,0)],3)]
def iA:ap:=(yC,4)
theorem fP (l:List UInt8):WideAt.IsKeyLit (.string l):=by simp[WideAt.IsKeyLit]
theorem vI (z:Int):WideAt.IsKeyLit (.int .u8 z):=by simp[WideAt.IsKeyLit]
theorem dQ {a b:List UInt8} (h:a≠b):Lit.string a≠Lit.string b:=by simpa using h
theorem mX {a b:Int} (h:a≠b):Lit.int .u8 a≠Lit.int .u8 b:=by simpa using h
theorem zU:Maps.has D1 (.string [107,105,108,108])=true/\D1.atKey (.string [107,105,108,108]) kg=.lit (.int .i64 0):=by
 unfold D1 kg
 rw[Maps.has_put_other (dQ (by decide)),Maps.has_put_other (dQ (by decide)),Maps.has_put_other (dQ (by decide)),Maps.has_put_other (dQ (by decide)),Maps.atKey_put_other (dQ (by decide)),Maps.atKey_put_other (dQ (by decide)),Maps.atKey_put_other (dQ (by decide)),Maps.atKey_put_other (dQ (by decide))]
 exact⟨Maps.has_put_same Maps.isMap_empty (fP _) _,Maps.atKey_put_same Maps.isMap_empty (fP _) _ _⟩
theorem C9:Maps.has D1 (.string [108,111,103])=true/\D1.atKey (.string [108,111,103]) kg=.lit (.int .i64 3):=by
 unfold D1 kg
 rw[Maps.has_put_other (dQ (by decide)),Maps.atKey_put_other (dQ (by decide))]
 exact⟨Maps.has_put_same (((Maps.isMap_empty.put _ _).put _ _).put _ _) (fP _) _,Maps.atKey_put_same (((Maps.isMap_empty.put _ _).put _ _).put _ _) (fP _) _ _⟩
theorem oR:Maps.has D1 (.string [97,108,108,111,119])=true/\D1.atKey (.string [97,108,108,111,119]) kg=.lit (.int .i64 4):=by
 unfold D1 kg
 exact⟨Maps.has_put_same ((((Maps.isMap_empty.put _ _).put _ _).put _ _).put _ _) (fP _) _,Maps.atKey_put_same ((((Maps.isMap_empty.put _ _).put _ _).put _ _).put _ _) (fP _) _ _⟩
theorem DF:Maps.has D2 (.string [110,114])=true/\D2.atKey (.string [110,114]) kg=.lit (.int .i64 0):=by
 unfold D2 kg
 rw[Maps.has_put_other (dQ (by decide)),Maps.has_put_other (dQ (by decide)),Maps.has_put_other (dQ (by decide)),Maps.has_put_other (dQ (by decide)),Maps.atKey_put_other (dQ (by decide)),Maps.atKey_put_other (dQ (by decide)),Maps.atKey_put_other (dQ (by decide)),Maps.atKey_put_other (dQ (by decide))]
 exact⟨Maps.has_put_same Maps.isMap_empty (fP _) _,Maps.atKey_put_same Maps.isMap_empty (fP _) _ _⟩
theorem zJ:Maps.has D2 (.string [107,105,110,100])=true/\D2.atKey (.string [107,105,110,100]) kg=.lit (.int .i64 1):=by
 unfold D2 kg
 rw[Maps.has_put_other (dQ (by decide)),Maps.has_put_other (dQ (by decide)),Maps.has_put_other (dQ (by decide)),Maps.atKey_put_other (dQ (by decide)),Maps.atKey_put_other (dQ (by decide)),Maps.atKey_put_other (dQ (by decide))]
 exact⟨Maps.has_put_same (Maps.isMap_empty.put _ _) (fP _) _,Maps.atKey_put_same (Maps.isMap_empty.put _ _) (fP _) _ _⟩
theorem EH:Maps.has D2 (.string [97])=true/\D2.atKey (.string [97]) kg=.lit (.int .i64 2):=by
 unfold D2 kg
 rw[Maps.has_put_other (dQ (by decide)),Maps.has_put_other (dQ (by decide)),Maps.atKey_put_other (dQ (by decide)),Maps.atKey_put_other (dQ (by decide))]
 exact⟨Maps.has_put_same ((Maps.isMap_empty.put _ _).put _ _) (fP _) _,Maps.atKey_put_same ((Maps.isMap_empty.put _ _).put _ _) (fP _) _ _⟩
theorem ov (z:Int) (h:z≠61/\z≠33/\z≠60/\z≠62):D3.atKey (.int .u8 z) kg=kg:=by
 unfold D3
 rw[Maps.atKey_put_other (mX h.2.2.2),Maps.atKey_put_other (mX h.2.2.1),Maps.atKey_put_other (mX h.2.1),Maps.atKey_put_other (mX h.1)]
 rfl
theorem EA:D3.atKey (.int .u8 61) kg=.lit (.int .i64 1):=by
 unfold D3 kg
 rw[Maps.atKey_put_other (mX (by decide)),Maps.atKey_put_other (mX (by decide)),Maps.atKey_put_other (mX (by decide))]
 exact Maps.atKey_put_same Maps.isMap_empty (vI _) _ _
theorem DA:D3.atKey (.int .u8 33) kg=.lit (.int .i64 2):=by
 unfold D3 kg
 rw[Maps.atKey_put_other (mX (by decide)),Maps.atKey_put_other (mX (by decide))]
 exact Maps.atKey_put_same (Maps.isMap_empty.put _ _) (vI _) _ _
theorem BY:D3.atKey (.int .u8 60) kg=.lit (.int .i64 3):=by
 unfold D3 kg
 rw[Maps.atKey_put_other (mX (by decide))]
 exact Maps.atKey_put_same ((Maps.isMap_empty.put _ _).put _ _) (vI _) _ _
theorem DP:j9 ⟨#[110,114,61,51]⟩ (0,1,3):=by
 refine⟨2,3,by decide,by decide,λi a=>?_,EA,by decide,DF.1,DF.2,rfl,by decide,by decide,by decide +kernel⟩
 have:i=0\/i=1:=by omega
 rcases this with rfl | rfl<;>exact ov _ (by decide)
theorem EJ:j9 ⟨#[97,60,53]⟩ (2,3,5):=by
 refine⟨1,5,by decide,by decide,λi a=>?_,BY,by decide,EH.1,EH.2,rfl,by decide,by decide,by decide +kernel⟩
 obtain rfl:i=0:=by omega
 exact ov _ (by decide)
theorem BU:j9 ⟨#[107,105,110,100,33,48]⟩ (1,2,0):=by
 refine⟨4,0,by decide,by decide,λi a=>?_,DA,by decide,zJ.1,zJ.2,rfl,by decide,by decide,by decide +kernel⟩
 have:i=0\/i=1\/i=2\/i=3:=by omega
 rcases this with rfl | rfl | rfl | rfl<;>exact ov _ (by decide)
theorem xG:oa ⟨#[107,105,108,108,32,110,114,61,51,32,97,60,53]⟩ ([(0,1,3),(2,3,5)],0):=by
 refine⟨⟨#[107,105,108,108]⟩,[⟨#[110,114,61,51]⟩,⟨#[97,60,53]⟩],by decide +kernel,by decide +kernel,by decide,zU.1,zU.2,by decide,rfl,by decide,λj u c a b=>?_⟩
 match j,a,b with
 | 0,a,b=>simp at a b;subst a b;exact DP
 | 1,a,b=>simp at a b;subst a b;exact EJ
 | j+2,a,b=>simp at a
theorem zZ:oa ⟨#[108,111,103,32,107,105,110,100,33,48]⟩ ([(1,2,0)],3):=by
 refine⟨⟨#[108,111,103]⟩,[⟨#[107,105,110,100,33,48]⟩],by decide +kernel,by decide +kernel,by decide,C9.1,C9.2,by decide,rfl,by decide,λj u c a b=>?_⟩
 match j,a,b with
 | 0,a,b=>simp at a b;subst a b;exact BU
 | j+1,a,b=>simp at a
theorem xZ:jk 4 yC qX:=by
 refine⟨⟨#[107,105,108,108,32,110,114,61,51,32,97,60,53]⟩,⟨#[108,111,103,32,107,105,110,100,33,48,59,97,108,108,111,119]⟩,by decide,by decide +kernel,by decide,xG,?_⟩
 refine⟨⟨#[108,111,103,32,107,105,110,100,33,48]⟩,⟨#[97,108,108,111,119]⟩,by decide,by decide +kernel,by decide,zZ,?_⟩
 exact⟨by decide,by decide +kernel,by decide +kernel,by decide +kernel,oR.1,oR.2⟩
theorem E8:ae iA=0:=by decide
set_option maxHeartbeats 1000000 in
theorem xo (w:World) (t:oE w):
  Calls Tryz.prog 32 #[] w λe h=>∃ c,e=.returned c/\aN w.heap.size h c iA/\Below w.heap.size w h:=by
 have l:Hid (∀ X,Calls Tryz.prog 63 #[.string qX] (w.alloc X) λe h=>∃ c,e=.returned (.tuple #[c,.int .i64 0])/\aN (w.heap.size+1) h c iA/\Below (w.alloc X).heap.size (w.alloc X) h):=by
  intro X
  obtain⟨x,y⟩:=t.later ((Below.refl _ _).alloc (Nat.le_refl _) X)
  have:=l7 qX yC 4 xZ (mA (by decide)) E8 x _ y
  refine this.mono λe h ⟨c,r,k,z⟩=>⟨c,r,?_,z⟩
  rw[World.size_alloc] at k
  exact k
 have A:∀ X,Below w.heap.size w (w.alloc X):=λX=>(Below.refl _ _).alloc (Nat.le_refl _) _
 go_enter Tryz.func32,Tryz.ntmps32
 go_wp2_with (first | (go_at_call 63;go_must (refine Calls.mono (l.out _) ?_;rintro e d ⟨c,rfl,s,f⟩;have m:Hid (aN (w.heap.size+1) d c iA):=s;obtain⟨G,rfl,B,C⟩:=s.at;obtain⟨i,a,rfl,_,_,_⟩:=C;have j:=f.size;have n:=(f.block w.heap.size (by simp)).trans (MapKept.heap_alloc w _).1;have b:∀ X,(d.alloc X).heap[w.heap.size]?=some (.cells #[.slice none 0 0,.int .i64 0] 30 (0,0)):=λX=>(Below.heap_alloc _ _ _ (by simp at j;omega)).trans n;have H:∀ X,(d.alloc X).cell? ⟨w.heap.size,0,none⟩=some (.slice none 0 0):=λX=>(ah (b X)).1;have I:∀ X,(d.alloc X).cell? ⟨w.heap.size,1,none⟩=some (.int .i64 0):=λX=>(ah (b X)).2.1;have J:∀ X,(d.alloc X).frozen? ⟨w.heap.size,0,none⟩=false:=λX=>(ah (b X)).2.2.1;have K:∀ X,(d.alloc X).frozen? ⟨w.heap.size,1,none⟩=false:=λX=>(ah (b X)).2.2.2)))
 have o:Below w.heap.size w (((d.alloc (.cells #[.slice i iA.1.length a,.int .i64 iA.2] 30)).setCell ⟨w.heap.size,0,none⟩ (.slice i iA.1.length a)).setCell ⟨w.heap.size,1,none⟩ (.int .i64 iA.2)):=(((((A _).trans (f.mono (by simp))).alloc (by simp at j;omega) _).setCell (p:=⟨w.heap.size,0,none⟩) (Nat.le_refl _) _).setCell (p:=⟨w.heap.size,1,none⟩) (Nat.le_refl _) _)
 have q:=ch (u:=.int .i64 iA.2) (cG (u:=.slice i iA.1.length a) (b (.cells #[.slice i iA.1.length a,.int .i64 iA.2] 30)))
 obtain⟨L,M,_,_⟩:=ah q
 refine bodyPost_ret (v:=.agg #[.slice i iA.1.length a,.int .i64 iA.2]) ?_ rfl ⟨_,rfl,λD E F=>m.out D (λg r k=>(E g (by omega) (by simp;omega)).trans ?_) (Nat.le_trans (by simp) F),o⟩
 ·rw[bJ rfl]
  go_simp
 ·rw[Below.heap_setCell _ _ _ _ (by show g≠w.heap.size;omega),Below.heap_setCell _ _ _ _ (by show g≠w.heap.size;omega),Below.heap_alloc _ _ _ k]
end Go.Proofs.YtnpdhopjpjickaaGreatDoor
end
section
set_option linter.all false
set_option maxRecDepth 100000
namespace Go.Proofs.YtnpdhopjpjickaaGreatDoor
open Go.ChangeShapes Go.WideShapes Go.ChangeAt Go.RowKit Go.Deep
section
variable {H:Type} {enc:TypeId × Value->H} {W:World} {base:Nat} {sp:Nat->Bool} {held:Bool}
theorem yZ {j:Nat} {cv:Value} {x:DataW H × List MemPlace} (h:DataW.trod enc Tryz.prog W base sp held j 140 [cv]=some x):∃ r,bB W.heap.size W cv r:=by
 rcases open_slice Tryz.underlying140 h with ⟨l,_⟩ | ⟨a,e,s,m,n,D,Pl,l,_,hl,Q,t,_,w⟩
 ·simp at l
  subst l
  exact⟨[],none,0,rfl,Nat.le_refl _,Nat.zero_le _,λi c y=>by simp at y⟩
 ·simp at l
  subst l
  have R:Tryz.prog.cellsOf 145=3:=by kernel_rfl
  have S:Tryz.prog.cellsOf 3=1:=by kernel_rfl
  rw[R] at w
  have T:e<=m:=by rw[t];split<;>omega
  have p:∀ i,i<e->∃ c:aB,a=⟨a.block,a.off,none⟩/\a.block<W.heap.size/\gl W a.block (a.off+i*3) c:=by
   intro i hi
   have z:W.cell? (a.add 0)≠none:=by
    obtain⟨g,A,_⟩:=w 0 (by omega)
    obtain⟨_,d,b⟩:=World.cells?_some A
    have:=b 0 (by omega)
    rw[add_add] at this
    simp at this
    match g,d with
    | [U,V,X],_=>simp at this |-;rw[this];simp
   obtain⟨v,Y⟩:=Option.ne_none_iff_exists'.1 z
   obtain⟨q,B⟩:=gn Y
   obtain⟨g,A,Z⟩:=w i (by omega)
   obtain⟨_,d,b⟩:=World.cells?_some A
   obtain⟨y0,y1,y2,k,_,_,G,I,J⟩:=trod_struct3 Tryz.underlying145 Z
   match g,d with
   | [U,V,X],_=>
    simp[S] at G I J
    obtain⟨f,K,_,w0⟩:=DataW.trod_int Tryz.underlying3 G
    obtain⟨o,L,_,w1⟩:=DataW.trod_int Tryz.underlying3 I
    obtain⟨u,M,_,w2⟩:=DataW.trod_int Tryz.underlying3 J
    simp at K L M
    subst K L M
    have N:=b 0 (by omega)
    have O:=b 1 (by omega)
    have P:=b 2 (by omega)
    rw[add_add,q,dL] at N O P
    exact⟨(f,o,u),q,B,by simpa using N,by simpa [Nat.add_assoc] using O,by simpa [Nat.add_assoc] using P,w0,w1,w2⟩
  obtain⟨r,C,E⟩:=ic _ e p
  refine⟨r,some a,s,by rw[C],by omega,Q,λi c y=>?_⟩
  obtain⟨q,B,F⟩:=E i c y
  exact⟨a.block,a.off,by rw[<-q],B,F⟩
theorem sP {d:Nat} {rv:Value} {x:DataW H × List MemPlace} (h:DataW.trod enc Tryz.prog W base sp held d 28 [rv]=some x):∃ j,be W.heap.size W rv j:=by
 rcases open_slice_pairs Tryz.underlying28 Tryz.underlying142 (by kernel_rfl) rfl rfl (by kernel_rfl) (by kernel_rfl) h with ⟨e,_⟩ | ⟨a,b,k,m,n,A,K,_,_,_,_,e,_,L,B,l,_,w⟩
 ·simp at e
  subst e
  exact⟨[],none,0,rfl,Nat.le_refl _,Nat.zero_le _,λi c C=>by simp at C⟩
 ·simp at e
  subst e
  have D:b<=m:=by rw[l];split<;>omega
  have f:∀ i,i<b->∃ r:ai,a=⟨a.block,a.off,none⟩/\a.block<W.heap.size/\gF W.heap.size W a.block (a.off+i*2) r:=by
   intro i M
   obtain⟨g,o⟩:=gn (w 0 (by omega)).1
   obtain⟨y,p,E,F⟩:=w i (by omega)
   obtain⟨G,q⟩:=yZ E
   obtain⟨v,z,_,I⟩:=DataW.trod_int Tryz.underlying3 F
   simp at z
   rw[z] at p
   rw[g,dL] at y p
   exact⟨(G,v),g,o,A i,y,by simpa [Nat.add_assoc] using p,I,q⟩
  obtain⟨j,s,t⟩:=ic _ b f
  refine⟨j,some a,k,by rw[s],by omega,B,λi r J=>?_⟩
  obtain⟨g,o,u⟩:=t i r J
  exact⟨a.block,a.off,by rw[<-g],o,u⟩
end
theorem ED {H:Type} {enc:TypeId × Value->H} {W:World} {r:Reach} {k base:Nat} {sp:Nat->Bool} {held:Bool} {v:Value} {d:DataW H} {p:List MemPlace}
  (m:Value.okWide Tryz.prog W r k 30 v) (h:DataW.Trod enc Tryz.prog W base sp held 30 v d p):∃ o,bG W.heap.size W v o:=by
 obtain⟨q,rfl,a⟩:=nj Tryz.underlying30 m
 obtain⟨f,s⟩:=h
 obtain⟨z,A,n,_,_,g,i⟩:=trod_struct2 Tryz.underlying30 s
 have t:Tryz.prog.cellsOf 30=2:=by kernel_rfl
 have b:Tryz.prog.cellsOf 28=1:=by kernel_rfl
 have c:Tryz.prog.cellsOf 3=1:=by kernel_rfl
 rw[t] at a
 obtain⟨l⟩:=q
 match l,a with
 | [u,B],_=>
  simp[Value.cells,b,c] at g i
  obtain⟨w,e⟩:=sP g
  obtain⟨x,j,_,y⟩:=DataW.trod_int Tryz.underlying3 i
  simp at j
  subst j
  exact⟨(w,x),u,rfl,y,e⟩
end Go.Proofs.YtnpdhopjpjickaaGreatDoor
end
section
set_option linter.all false
set_option maxRecDepth 100000
namespace Go.Proofs.YtnpdhopjpjickaaGreatDoor
open Go.RowKit Go.Maps
def cw (B:Nat) (w:World) (v:Value) (cs:List Int):Prop:=
 ∃ a d,v=.slice a cs.length d/\cs.length<=d/\d<=maxLen/\∀ (i:Nat) c,cs[i]?=some c->∃ b o,a=some ⟨b,o,none⟩/\b<B/\w.cell? ⟨b,o+i,none⟩=some (.int .i64 c)
theorem cw.later {B d:Nat} {w w':World} {v:Value} {cs:List Int} (h:cw B w v cs) (g:Below d w w') (s:B<=d):cw B w' v cs:=by
 obtain⟨a,f,j,l,m,n⟩:=h
 refine⟨a,f,j,l,m,λi c q=>?_⟩
 obtain⟨b,o,e,r,k⟩:=n i c q
 exact⟨b,o,e,r,(g.cell (p:=⟨b,o+i,none⟩) (by show b<d;omega)).trans k⟩
theorem yS {L:Nat} {w:World} {v:Value} {l:List Int} (h:w.ownsRow L 3 1 v l.length (l.map (.int .i64))):cw w.heap.size w v l:=by
 obtain⟨a,b,rfl,f,j,k⟩:=ax h
 refine⟨a,b,rfl,f,j,λi c e=>?_⟩
 have n:i<l.length:=(List.getElem?_eq_some_iff.1 e).1
 obtain⟨g,rfl,m,d⟩:=k (by omega)
 refine⟨g,0,rfl,d,?_⟩
 rw[Nat.zero_add]
 exact aL h i _ (by simp[e])
abbrev iC:=Int × Int × Int × Int × Int
def AZ (x:iC):Nat->Int:=vX x.1 x.2.1 x.2.2.1 x.2.2.2.1 x.2.2.2.2
def nL (w:World) (b o:Nat) (x:iC):Prop:=w.cell? ⟨b,o,none⟩=some (.int .i64 x.1)/\w.cell? ⟨b,o+1,none⟩=some (.int .i64 x.2.1)/\w.cell? ⟨b,o+2,none⟩=some (.int .i64 x.2.2.1)/\w.cell? ⟨b,o+3,none⟩=some (.int .i64 x.2.2.2.1)/\w.cell? ⟨b,o+4,none⟩=some (.int .i64 x.2.2.2.2)
def fu (B:Nat) (w:World) (v:Value) (cs:List iC):Prop:=
 ∃ a d,v=.slice a cs.length d/\cs.length<=d/\d<=maxLen/\∀ (i:Nat) c,cs[i]?=some c->∃ b o,a=some ⟨b,o,none⟩/\b<B/\nL w b (o+i*5) c
theorem nL.later {B:Nat} {w w':World} {b o:Nat} {c:iC} (h:nL w b o c) (a:Below B w w') (d:b<B):nL w' b o c:=by
 unfold nL
 rw[a.cell (p:=⟨b,o,none⟩) d,a.cell (p:=⟨b,o+1,none⟩) d,a.cell (p:=⟨b,o+2,none⟩) d,a.cell (p:=⟨b,o+3,none⟩) d,a.cell (p:=⟨b,o+4,none⟩) d]
 exact h
theorem fu.later {B f:Nat} {w w':World} {v:Value} {cs:List iC} (h:fu B w v cs) (g:Below f w w') (r:B<=f):fu B w' v cs:=by
 obtain⟨a,d,j,l,m,n⟩:=h
 refine⟨a,d,j,l,m,λi c p=>?_⟩
 obtain⟨b,o,e,q,k⟩:=n i c p
 exact⟨b,o,e,q,k.later g (by omega)⟩
def nu (x:List Int):iC:=(x.getD 0 0,x.getD 1 0,x.getD 2 0,x.getD 3 0,x.getD 4 0)
theorem ul:∀ (l:List (List Int)),(∀ x∈l,∃ a b c d e,x=[a,b,c,d,e])->∀ (i:Nat) (c:iC),(l.map nu)[i]?=some c->
  (bV l)[i*5]?=some (.int .i64 c.1)/\(bV l)[i*5+1]?=some (.int .i64 c.2.1)/\(bV l)[i*5+2]?=some (.int .i64 c.2.2.1)/\(bV l)[i*5+3]?=some (.int .i64 c.2.2.2.1)/\(bV l)[i*5+4]?=some (.int .i64 c.2.2.2.2)
 | [],_,i,c,h=>by simp at h
 | x :: l,f,0,c,h=>by
  obtain⟨g,j,k,m,n,rfl⟩:=f x (by simp)
  simp at h
  subst h
  simp[bV,nu]
 | x :: l,f,i+1,c,h=>by
  obtain⟨g,j,k,m,n,rfl⟩:=f x (by simp)
  have o:=ul l (λy p=>f y (by simp[p])) i c (by simpa using h)
  have q:bV ([g,j,k,m,n] :: l)=.int .i64 g :: .int .i64 j :: .int .i64 k :: .int .i64 m :: .int .i64 n :: bV l:=rfl
  rw[q,show (i+1)*5=i*5+5 by omega]
  exact o
theorem pU {L:Nat} {w:World} {v:Value} {l:List (List Int)} (m:∀ x∈l,∃ a b c d e,x=[a,b,c,d,e]) (h:w.ownsRow L 34 5 v l.length (bV l)):fu w.heap.size w v (l.map nu):=by
 obtain⟨a,f,rfl,n,o,p⟩:=ax h
 refine⟨a,f,by rw[List.length_map],by rw[List.length_map];exact n,o,λi c k=>?_⟩
 have z:i<l.length:=by have:=(List.getElem?_eq_some_iff.1 k).1;simpa using this
 obtain⟨g,rfl,q,j⟩:=p (by omega)
 obtain⟨r,s,t,u,y⟩:=ul l m i c k
 refine⟨g,0,rfl,j,?_,?_,?_,?_,?_⟩
 all_goals rw[Nat.zero_add]
 ·exact aL h _ _ r
 ·exact aL h _ _ s
 ·exact aL h _ _ t
 ·exact aL h _ _ u
 ·exact aL h _ _ y
end Go.Proofs.YtnpdhopjpjickaaGreatDoor
end
section
set_option linter.all false
set_option maxRecDepth 100000
namespace Go.Proofs.YtnpdhopjpjickaaGreatDoor
open Go.RowKit Go.Maps
set_option maxHeartbeats 1000000 in
theorem vM (a b:Int) (w:World):
  Calls Tryz.prog 244 #[.agg #[.int .i64 a,.int .i64 b]] w λe w'=>e=.returned (.int .i64 (p8 true a b))/\Below w.heap.size w w':=by
 by_cases c:a<b
 ·have d:Hid (p8 true a b=a):=by unfold Hid p8;rw[if_pos c]
  go_enter Tryz.func244,Tryz.ntmps244
  go_wp2
  go_ret
  exact⟨by rw[d.out];rfl,(Below.refl _ _).alloc (Nat.le_refl _) _⟩
 ·have d:Hid (p8 true a b=4):=by unfold Hid p8;rw[if_neg c];rfl
  go_enter Tryz.func244,Tryz.ntmps244
  go_wp2
  go_ret
  exact⟨by rw[d.out];rfl,(Below.refl _ _).alloc (Nat.le_refl _) _⟩
structure qg (L:Nat) (W:World) (v:Value) (n:Nat) (xs:List Value) (rc sc:Value) (N:Nat) (cc:List Value) (vd:Int) (fs:Nat->Value->Prop) (w:World):Prop where
 grown:W.grownBy w v.ownBlock
 lits:∀ u,fs 5 u->∃ g T0 fr,u=.slice (some ⟨g,0,none⟩) 2 2/\W.heap.size<=g/\w.heap[g]?=some (.cells #[rc,sc] T0 fr)
 one:∀ u u',fs 6 u->fs 6 u'->u=u'
 join:∀ u,fs 6 u->w.ownsRow W.heap.size 145 3 u N cc
 build:∀ u,fs 14 u->∃ u7,fs 6 u7/\u=.agg #[u7,.int .i64 vd]
 made:∀ u,fs 15 u->∃ g T0 fr u7,u=.slice (some ⟨g,0,none⟩) 1 1/\W.heap.size<=g/\fs 6 u7/\w.heap[g]?=some (.cells #[u7,.int .i64 vd] T0 fr)
 row:(∀ u,¬fs 16 u)->w.ownsRow L 142 2 v n xs
 app:∀ u,fs 16 u->∃ u7,fs 6 u7/\w.ownsRow L 142 2 u (n+1) (xs++[u7,.int .i64 vd])/\(u.ownBlock=v.ownBlock\/∃ k,u.ownBlock=some k/\W.heap.size<=k)
section
variable {L:Nat} {W w w':World} {v:Value} {n:Nat} {xs:List Value} {rc sc:Value} {N:Nat} {cc:List Value} {vd:Int} {fs:Nat->Value->Prop}
theorem qg.start (h:W.ownsRow L 142 2 v n xs):qg L W v n xs rc sc N cc vd (λ_ _=>False) W.drew:=
 ⟨⟨rfl,rfl,rfl,Nat.le_refl _,λ_ _ _=>rfl⟩,λ_ h=>h.elim,λ_ _ h=>h.elim,λ_ h=>h.elim,λ_ h=>h.elim,λ_ h=>h.elim,λ_=>h,λ_ h=>h.elim⟩
theorem qg.later (h:qg L W v n xs rc sc N cc vd fs w) (b:Below w.heap.size w w'):qg L W v n xs rc sc N cc vd fs w':=by
 refine⟨World.grownBy.andThen h.grown (qf b v.ownBlock) λj m=>.inr m,λu a=>?_,h.one,λu a=>au (h.join u a) b,h.build,λu a=>?_,λo=>au (h.row o) b,λu a=>?_⟩
 ·obtain⟨g,f,i,d,e,c⟩:=h.lits u a
  exact⟨g,f,i,d,e,(b.block g (lt_of_block c)).trans c⟩
 ·obtain⟨g,f,i,k,d,e,c,l⟩:=h.made u a
  exact⟨g,f,i,k,d,e,c,(b.block g (lt_of_block l)).trans l⟩
 ·obtain⟨k,d,e,c⟩:=h.app u a
  exact⟨k,d,au e b,c⟩
theorem qg.other (h:qg L W v n xs rc sc N cc vd fs w) (k:Nat) (u:Value) (m:5≠k) (e:6≠k) (f:14≠k) (i:15≠k) (j:16≠k):qg L W v n xs rc sc N cc vd (bW fs k u) w:=by
 refine⟨h.grown,λu a=>h.lits u (aj m a),λu o a l=>h.one u o (aj e a) (aj e l),λu a=>h.join u (aj e a),λu a=>?_,λu a=>?_,λp=>h.row λu a=>p u (.inl a),λu a=>?_⟩
 ·obtain⟨b,c,d⟩:=h.build u (aj f a)
  exact⟨b,.inl c,d⟩
 ·obtain⟨g,q,r,b,c,d,s,t⟩:=h.made u (aj i a)
  exact⟨g,q,r,b,c,d,.inl s,t⟩
 ·obtain⟨b,c,d⟩:=h.app u (aj j a)
  exact⟨b,.inl c,d⟩
theorem qg.lists (h:qg L W v n xs rc sc N cc vd fs w) (b:TypeId):qg L W v n xs rc sc N cc vd (bW fs 5 (.slice (some ⟨w.heap.size,0,none⟩) 2 2)) (w.alloc (.cells #[rc,sc] b)):=by
 have f:=h.grown.size
 have h:=h.later ((Below.refl w.heap.size w).alloc (Nat.le_refl _) (.cells #[rc,sc] b))
 refine⟨h.grown,λu a=>?_,λu j a i=>h.one u j (aj (by decide) a) (aj (by decide) i),λu a=>h.join u (aj (by decide) a),λu a=>?_,λu a=>?_,λk=>h.row λu a=>k u (.inl a),λu a=>?_⟩
 ·rcases a with a | ⟨_,rfl⟩
  ·exact h.lits u a
  ·exact⟨w.heap.size,b,(0,0),rfl,f,af _ _⟩
 ·obtain⟨c,d,e⟩:=h.build u (aj (by decide) a)
  exact⟨c,.inl d,e⟩
 ·obtain⟨g,b,l,c,d,e,m,o⟩:=h.made u (aj (by decide) a)
  exact⟨g,b,l,c,d,e,.inl m,o⟩
 ·obtain⟨c,d,e⟩:=h.app u (aj (by decide) a)
  exact⟨c,.inl d,e⟩
theorem qg.joined (h:qg L W v n xs rc sc N cc vd fs w) (b:∀ u,¬fs 6 u) (j:Below w.heap.size w w') (u:Value) (k:w'.ownsRow w.heap.size 145 3 u N cc):qg L W v n xs rc sc N cc vd (bW fs 6 u) w':=by
 have f:=h.grown.size
 have h:=h.later j
 refine⟨h.grown,λu a=>h.lits u (aj (by decide) a),λi l a c=>?_,λi a=>?_,λu a=>?_,λu a=>?_,λm=>h.row λu a=>m u (.inl a),λu a=>?_⟩
 ·rcases a with a | ⟨_,rfl⟩
  ·exact absurd a (b i)
  ·rcases c with c | ⟨_,rfl⟩
   ·exact absurd c (b l)
   ·rfl
 ·rcases a with a | ⟨_,rfl⟩
  ·exact absurd a (b i)
  ·exact cK k f
 ·obtain⟨d,e,_⟩:=h.build u (aj (by decide) a)
  exact absurd e (b d)
 ·obtain⟨g,q,r,d,e,o,p,s⟩:=h.made u (aj (by decide) a)
  exact absurd p (b d)
 ·obtain⟨d,e,o⟩:=h.app u (aj (by decide) a)
  exact absurd e (b d)
theorem qg.built (h:qg L W v n xs rc sc N cc vd fs w) (d:Value) (e:fs 6 d):qg L W v n xs rc sc N cc vd (bW fs 14 (.agg #[d,.int .i64 vd])) w:=by
 refine⟨h.grown,λu a=>h.lits u (aj (by decide) a),λu i a f=>h.one u i (aj (by decide) a) (aj (by decide) f),λu a=>h.join u (aj (by decide) a),λu a=>?_,λu a=>?_,λj=>h.row λu a=>j u (.inl a),λu a=>?_⟩
 ·rcases a with a | ⟨_,rfl⟩
  ·obtain⟨y,b,c⟩:=h.build u a
   exact⟨y,.inl b,c⟩
  ·exact⟨d,.inl e,rfl⟩
 ·obtain⟨g,k,l,y,b,c,m,o⟩:=h.made u (aj (by decide) a)
  exact⟨g,k,l,y,b,c,.inl m,o⟩
 ·obtain⟨y,b,c⟩:=h.app u (aj (by decide) a)
  exact⟨y,.inl b,c⟩
theorem qg.rule (h:qg L W v n xs rc sc N cc vd fs w) (e:∀ u,¬fs 15 u) (b:Value) (a:fs 14 (.agg #[b,.int .i64 vd])) (f:TypeId):qg L W v n xs rc sc N cc vd (bW fs 15 (.slice (some ⟨w.heap.size,0,none⟩) 1 1)) (w.alloc (.cells #[b,.int .i64 vd] f)):=by
 have g:=h.grown.size
 have i:fs 6 b:=by
  obtain⟨y,c,d⟩:=h.build _ a
  have:b=y:=by simpa using d
  rw[this]
  exact c
 have h:=h.later ((Below.refl w.heap.size w).alloc (Nat.le_refl _) (.cells #[b,.int .i64 vd] f))
 refine⟨h.grown,λu a=>h.lits u (aj (by decide) a),λu k a j=>h.one u k (aj (by decide) a) (aj (by decide) j),λu a=>h.join u (aj (by decide) a),λu a=>?_,λu a=>?_,λl=>h.row λu a=>l u (.inl a),λu a=>?_⟩
 ·obtain⟨y,c,d⟩:=h.build u (aj (by decide) a)
  exact⟨y,.inl c,d⟩
 ·rcases a with a | ⟨_,rfl⟩
  ·exact absurd a (e u)
  ·exact⟨w.heap.size,f,(0,0),b,rfl,g,.inl i,af _ _⟩
 ·obtain⟨y,c,d⟩:=h.app u (aj (by decide) a)
  exact⟨y,.inl c,d⟩
theorem qg.append (h:qg L W v n xs rc sc N cc vd fs w) (q:∀ u,¬fs 16 u) (D:∀ k,v.ownBlock=some k->k<W.heap.size) (hL:L<=W.heap.size) (c:Value) (r:fs 15 c) (T:n<=100000) (U:TypeId):
  ∃ o w',(Builtin.append_ #[28,28] U #[v,c]).run Tryz.prog w=.ok o w'/\(∃ a s,o=.slice a (n+1) s)/\qg L W v n xs rc sc N cc vd (bW fs 16 o) w':=by
 have a1:=ag
 obtain⟨g,T0,fr,C,rfl,hg,t,E⟩:=h.made c r
 have z:=h.row q
 have F:C.oneCell'=true:=by
  obtain⟨a,s,rfl,_⟩:=ax (h.join C t)
  rfl
 obtain⟨G,H,I,J,K⟩:∃ i,Tryz.prog.info? 142=some i/\i.zero=some (.agg #[.slice none 0 0,.int .i64 0])/\i.size=2/\i.bytes=32:=fD (by kernel_rfl)
 obtain⟨o,w',r1,V,X,_,r5⟩:=run_append_own_at (P:=Tryz.prog) w L 28 U 142 G _ 2 32 Tryz.underlying28 H I J K rfl (by decide) v n xs z ⟨g,0,none⟩ 1 1 [C,.int .i64 vd] rfl (λj u M=>by rw[dL,Nat.zero_add];exact ab E j (by simpa using M)) (by intro u b;simp at b;rcases b with rfl | rfl;exact F;rfl) (by omega) (by omega) (Nat.le_trans hL h.grown.size)
 have d:∀ p,W.heap.size<=p->∀ {x},w.heap[p]?=some x->w'.heap[p]?=some x:=λp a4 x Y=>by
  refine (X.block p (Array.getElem?_eq_some_iff.1 Y).1 λe=>?_).trans Y
  have:=D p e.symm
  omega
 obtain⟨a',A,e',_⟩:=ax V
 refine⟨o,w',r1,⟨a',A,e'⟩,World.grownBy.andThen h.grown X λj M=>.inr M,λu b=>?_,λu u' b O=>h.one u u' (aj (by decide) b) (aj (by decide) O),λu b=>?_,λu b=>?_,λu b=>?_,λT=>absurd (.inr ⟨rfl,rfl⟩) (T o),λu b=>?_⟩
 ·obtain⟨f,Q,l,B,m,R⟩:=h.lits u (aj (by decide) b)
  exact⟨f,Q,l,B,m,d f m R⟩
 ·exact ct (h.join u (aj (by decide) b)) λf a8 S Z=>(d f S Z).trans Z.symm
 ·obtain⟨y,B,m⟩:=h.build u (aj (by decide) b)
  exact⟨y,.inl B,m⟩
 ·obtain⟨f,Q,l,y7,B,m,R,e4⟩:=h.made u (aj (by decide) b)
  exact⟨f,Q,l,y7,B,m,.inl R,d f m e4⟩
 ·rcases b with b | ⟨_,rfl⟩
  ·exact absurd b (q u)
  ·refine⟨C,.inl t,V,?_⟩
   rcases r5 with e | e
   ·exact .inl e
   ·exact .inr ⟨_,e,h.grown.size⟩
end
def EQ (N n:Nat) (vd:Int) (k:Nat) (v:Value):Prop:=if k=5 then ∃ g:Nat,v=.slice (some ⟨g,0,none⟩) 2 2 else if k=6 then ∃ a b,v=.slice a N b else if k=13 then v=.int .i64 vd else if k=14 then ∃ a b,v=.agg #[.slice a N b,.int .i64 vd] else if k=15 then ∃ g:Nat,v=.slice (some ⟨g,0,none⟩) 1 1 else if k=16 then ∃ a b,v=.slice a (n+1) b else True
theorem Cz (N n:Nat) (vd:Int) (k:Nat):∃ v,EQ N n vd k v:=by
 unfold EQ
 split
 ·exact⟨_,0,rfl⟩
 ·split
  ·exact⟨_,none,0,rfl⟩
  ·split
   ·exact⟨_,rfl⟩
   ·split
    ·exact⟨_,none,0,rfl⟩
    ·split
     ·exact⟨_,0,rfl⟩
     ·split
      ·exact⟨_,none,0,rfl⟩
      ·exact⟨undef,trivial⟩
end Go.Proofs.YtnpdhopjpjickaaGreatDoor
end
section
set_option linter.all false
namespace Go.Proofs.YtnpdhopjpjickaaGreatDoor
end Go.Proofs.YtnpdhopjpjickaaGreatDoor
end
section
set_option linter.all false
namespace Go.Proofs.YtnpdhopjpjickaaGreatDoor
theorem jl (d:Array Int) (n:Nat) (g:∀ a b,a<=b->b<n->d[a]! ≤ d[b]!):∀ m,m<=n->fO (Lib.compactUpTo d m)/\∀ x,x∈Lib.compactUpTo d m ↔ ∃ j,j<m/\d[j]! = x
 | 0,_=>⟨List.Pairwise.nil,λx=>⟨λh=>by simp[Lib.compactUpTo] at h,λ⟨j,f,_⟩=>by omega⟩⟩
 | m+1,r=>by
  obtain⟨k,i⟩:=jl d n g m (by omega)
  rw[Lib.compactUpTo_succ]
  by_cases c:Lib.keeps d m=true
  ·rw[if_pos c]
   refine⟨List.pairwise_append.2 ⟨k,List.pairwise_singleton _ _,λa o b l=>?_⟩,λx=>?_⟩
   ·obtain⟨j,f,rfl⟩:=(i a).1 o
    rw[List.mem_singleton] at l
    subst l
    have p:d[m]! ≠ d[m-1]! := by
     simp[Lib.keeps] at c
     rcases c with h | h
     ·omega
     ·exact h
    have s:=g j (m-1) (by omega) (by omega)
    have t:=g (m-1) m (by omega) (by omega)
    omega
   ·rw[List.mem_append,i,List.mem_singleton]
    constructor
    ·rintro (⟨j,f,h⟩ | h)
     ·exact⟨j,by omega,h⟩
     ·exact⟨m,by omega,h.symm⟩
    ·rintro⟨j,f,h⟩
     by_cases e:j=m
     ·subst e;exact .inr h.symm
     ·exact .inl ⟨j,by omega,h⟩
  ·rw[if_neg c,List.append_nil]
   refine⟨k,λx=>?_⟩
   rw[i]
   have q:m≠0/\d[m]! = d[m-1]! := by
    simp[Lib.keeps] at c
    exact c
   constructor
   ·rintro⟨j,f,h⟩
    exact⟨j,by omega,h⟩
   ·rintro⟨j,f,h⟩
    by_cases e:j=m
    ·subst e
     exact⟨j-1,by omega,by rw[<-q.2];exact h⟩
    ·exact⟨j,by omega,h⟩
theorem sH (c:List Int) (h:c.Pairwise (·<=·)):fO (Lib.compact c)/\∀ x,x∈Lib.compact c ↔ x∈c:=by
 have k:∀ a b,a<=b->b<c.length->c.toArray[a]! ≤ c.toArray[b]! := by
  intro a b l f
  have e:∀ i,(g:i<c.length)->c.toArray[i]! = c[i]:=λi g=>by simp[getElem!_pos,g]
  rw[e a (by omega),e b f]
  by_cases m:a=b
  ·subst m;exact Int.le_refl _
  ·exact List.pairwise_iff_getElem.1 h a b (by omega) f (by omega)
 obtain⟨n,o⟩:=jl c.toArray c.length k c.length (Nat.le_refl _)
 refine⟨n,λx=>(o x).trans ⟨?_,?_⟩⟩
 ·rintro⟨j,d,rfl⟩
  have e:c.toArray[j]! = c[j]:=by simp[getElem!_pos,d]
  rw[e]
  exact List.getElem_mem _
 ·intro p
  obtain⟨j,d,rfl⟩:=List.getElem_of_mem p
  exact⟨j,d,by simp[getElem!_pos,d]⟩
theorem tg (xs:List Int):(xs.mergeSort λx y=>decide (x<=y)).Pairwise (·<=·):=
 (List.pairwise_mergeSort (le:=λx y:Int=>decide (x<=y)) (λa b c=>by simp only[decide_eq_true_eq];omega) (λa b=>by simp only[Bool.or_eq_true,decide_eq_true_eq];omega) xs).imp λh=>by simpa using h
def eA (f:Int) (c:aB):List Int:=if c.1=f then (if (c.2.1=1\/c.2.1=2)/\c.2.2<aF f then [c.2.2,c.2.2+1] else [c.2.2]) else []
def fE (f:Int) (cs:List aB):List Int:=0 :: cs.flatMap (eA f)
theorem zg (f:Int) (cs:List aB) (c:aB):fE f (cs++[c])=fE f cs++eA f c:=by simp[fE]
theorem tn (f:Int) (c:aB):(eA f c).length<=2:=by
 unfold eA
 split
 ·split<;>simp
 ·simp
theorem pq (f:Int):∀ a:List aB,(fE f a).length<=2*a.length+1
 | []=>by simp[fE]
 | c :: a=>by
  have b:=pq f a
  have d:=tn f c
  unfold fE at b |-
  simp only[List.length_cons,List.flatMap_cons,List.length_append] at b |-
  omega
theorem Bm {ps:List ap} (h:fw ps) (f n:Int):n∈fE f (bj ps) ↔ n∈cD ps f:=by
 rw[iS]
 unfold fE
 rw[List.mem_cons,List.mem_flatMap]
 constructor
 ·rintro (rfl | ⟨c,b,a⟩)
  ·exact⟨.inl rfl,zM f⟩
  ·have e:=(eG (sx h c b)).2.2
   unfold eA at a
   split at a
   ·rename_i d
    rw[d] at e
    split at a
    ·rename_i g
     simp at a
     rcases a with rfl | rfl
     ·exact⟨.inr ⟨c,b,d,.inl rfl⟩,e.2⟩
     ·exact⟨.inr ⟨c,b,d,.inr ⟨rfl,g.1⟩⟩,by omega⟩
    ·simp at a
     subst a
     exact⟨.inr ⟨c,b,d,.inl rfl⟩,e.2⟩
   ·simp at a
 ·rintro⟨rfl | ⟨c,b,d,a⟩,i⟩
  ·exact .inl rfl
  ·refine .inr ⟨c,b,?_⟩
   unfold eA
   rw[if_pos d]
   rcases a with rfl | ⟨rfl,g⟩
   ·split<;>simp
   ·rw[if_pos ⟨g,by omega⟩]
    simp
theorem tA {ps:List ap} (h:fw ps) (f:Int):Lib.compact ((fE f (bj ps)).mergeSort λx y=>decide (x<=y))=cD ps f:=by
 obtain⟨a,b⟩:=sH _ (tg (fE f (bj ps)))
 refine nU _ _ a (iI ps f) λx=>?_
 rw[b,List.mem_mergeSort,Bm h]
theorem rP (L:List Int):∀ b:List (List Int),jt (b++[L])=(jt b).flatMap λx=>L.map λc=>x++[c]
 | []=>by
  show L.flatMap (λa=>[[a]])=[[]].flatMap λx=>L.map λc=>x++[c]
  simp
  induction L with
  | nil=>rfl
  | cons a L d=>simp[d]
 | M :: b=>by
  rw[List.cons_append,ji,ji,rP L b,List.flatMap_assoc]
  congr 1
  funext a
  rw[List.map_flatMap,List.flatMap_map]
  congr 1
  funext x
  simp
def tw (x:List Int):List Int:=x++List.replicate (5-x.length) 0
def iL (ps:List ap) (k:Nat):List (List Int):=(jt ((mT ps).take k)).map tw
theorem kM:∀ (b:List (List Int)) (x:List Int),x∈jt b->x.length=b.length
 | [],x,h=>by
  have:x=[]:=by simpa [jt] using h
  subst this;rfl
 | L :: b,x,h=>by
  rw[ji,List.mem_flatMap] at h
  obtain⟨a,_,h⟩:=h
  obtain⟨y,c,rfl⟩:=List.mem_map.1 h
  simp[kM b y c]
theorem BA (x:List Int) (h:x.length<=5):(tw x).length=5:=by unfold tw;simp;omega
theorem CM (x:List Int) (c:Int) (h:x.length<5):(tw x).set x.length c=tw (x++[c]):=by
 unfold tw
 obtain⟨m,a⟩:∃ m,5-x.length=m+1:=⟨5-x.length-1,by omega⟩
 rw[a,List.set_append_right _ _ (Nat.le_refl _),Nat.sub_self,List.replicate_succ,List.set_cons_zero]
 rw[show 5-(x++[c]).length=m by simp;omega]
 simp
theorem Ad (ps:List ap):iL ps 0=[[0,0,0,0,0]]:=rfl
theorem tV (ps:List ap) (k:Nat) (c:k<=5):∀ x∈iL ps k,x.length=5:=by
 intro x a
 obtain⟨y,b,rfl⟩:=List.mem_map.1 a
 have:=kM _ y b
 exact BA y (by rw[this,List.length_take];omega)
theorem uu (ps:List ap) (k:Nat) (a:k<5):iL ps (k+1)=(iL ps k).flatMap λx=>(cD ps k).map λc=>x.set k c:=by
 unfold iL
 have h:=uh ps k a
 rw[List.take_succ,h]
 show (jt ((mT ps).take k++[cD ps k])).map tw=_
 rw[rP,List.map_flatMap,List.flatMap_map]
 rw[List.flatMap_def,List.flatMap_def]
 congr 1
 refine List.map_congr_left λx b=>?_
 have d:x.length=k:=by
  rw[kM _ x b,List.length_take,show (mT ps).length=5 from rfl]
  omega
 rw[List.map_map]
 refine List.map_congr_left λc _=>?_
 show tw (x++[c])=(tw x).set k c
 rw[<-CM x c (by omega),d]
theorem lu (ps:List ap):∀ k,k<=5->(iL ps k).length=nQ ps k
 | 0,_=>rfl
 | k+1,h=>by
  rw[uu ps k (by omega),fA _ (cD ps k).length _ (λa _=>by simp),lu ps k (by omega)]
  rfl
theorem Ah (ps:List ap):iL ps 5=fy ps:=by
 unfold iL fy
 rw[show (mT ps).take 5=mT ps from rfl]
 refine (List.map_congr_left λx a=>?_).trans (List.map_id _)
 have:=kM _ x a
 unfold tw
 rw[this]
 simp[mT]
end Go.Proofs.YtnpdhopjpjickaaGreatDoor
end
section
set_option linter.all false
set_option maxRecDepth 100000
namespace Go.Proofs.YtnpdhopjpjickaaGreatDoor
open Go.RowKit Go.Maps
set_option maxHeartbeats 2000000 in
theorem t8 (B:Nat) (lv:Value) (ps:List ap) (w:World) (C:j5 B w lv ps) (u:B<=w.heap.size):
  Calls Tryz.prog 259 #[lv] w λe c=>e=.returned (.int .i64 (bQ ps))/\Below w.heap.size w c:=by
 have F:Hid (∀ c,Below w.heap.size w c->j5 B c lv ps):=λc h=>C.later h u
 obtain⟨a,G,rfl,I,J,-⟩:=C
 have K:=ag
 generalize j:ps.length=g at*
 have d:=hid j
 clear j
 go_enter Tryz.func259,Tryz.ntmps259
 go_wp2
 go_loopw [8] (λv wr=>∃ k:Nat,k<=g/\v=.int .i64 k/\Hid (bQ ps=bQ (ps.drop k))/\Below w.heap.size w wr) (λv _=>g-(intOf v).toNat)
 case atStart=>exact⟨0,by omega,rfl,rfl,Below.refl _ _⟩
 case round=>
  obtain⟨k,R,rfl,H,f⟩:=hrel
  obtain⟨D,y⟩:∃ x,x=wr:=⟨_,rfl⟩
  subst y
  have T:(0:Int)<=(k:Int):=by omega
  have i:=f.size
  by_cases L:k<g
  ·have U:(k:Int)<(g:Int):=by omega
   obtain⟨p,q⟩:∃ p,ps[k]?=some p:=⟨ps[k]'(by rw[d.out];omega),by simp⟩
   have S:Hid (bQ (ps.drop k)=if ae p=0 then bQ (ps.drop (k+1)) else ae p):=vD ps k p q
   obtain⟨_,_,E,-,-,r⟩:=F.out _ f
   obtain⟨b,o,e,M,s⟩:=r k p q
   simp at E
   obtain⟨rfl,-,-⟩:=E
   subst e
   clear r
   obtain⟨N,O,P,V,W,t⟩:=s.pol
   have l:Hid (∀ c,Below D.heap.size D c->Calls Tryz.prog 152 #[.agg #[.slice N O P,.int .i64 p.2]] c λe z=>e=.returned (.int .i64 (ae p))/\Below c.heap.size c z):=λc h=>fm B _ p c (t.later h (Nat.le_trans u i)) (Nat.le_trans u (Nat.le_trans i h.size))
   clear s t
   by_cases n:ae p=0
   ·rw[n] at l
    have A:Hid (bQ ps=bQ (ps.drop (k+1))):=by unfold Hid;rw[H.out,S.out,if_pos n]
    clear n S
    go_wp2_with (first | (go_at_call 152;go_must (refine Calls.mono (l.out _ ((Below.refl _ _).alloc (Nat.le_refl _) _)) ?_;rintro e Q ⟨rfl,m⟩)))
    exact⟨⟨k+1,by omega,by go_num,A,Below.thenOf (f.alloc i _) m (by simp;omega)⟩,by simp[intOf];omega⟩
   ·have A:Hid (bQ ps=ae p):=by unfold Hid;rw[H.out,S.out,if_neg n]
    have X:(ae p != 0)=true:=by simpa using n
    clear n S
    generalize ae p=Y at*
    go_wp2_with (first | (go_at_call 152;go_must (refine Calls.mono (l.out _ ((Below.refl _ _).alloc (Nat.le_refl _) _)) ?_;rintro e Q ⟨rfl,m⟩)))
    go_ret
    exact⟨by rw[A.out];rfl,Below.thenOf (f.alloc i _) m (by simp;omega)⟩
  ·go_wp2
   go_ret
   exact⟨by rw[H.out,List.drop_eq_nil_of_le (by rw[d.out];omega)];rfl,f⟩
end Go.Proofs.YtnpdhopjpjickaaGreatDoor
end
