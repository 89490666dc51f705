import Derived.Test.YtnpdhopjpjickaaGreatDoorWj04
import Derived.Test.YtnpdhopjpjickaaGreatDoorWj01
import Derived.Laws.ResultCell
set_option linter.all false
namespace Go.Proofs.YtnpdhopjpjickaaGreatDoor
open Go.RowKit Go.Maps
def Cx:Value->Nat
 | .string s=>s.size
 | _=>0
def Ep (w W:World) (b c d e a:Nat):Prop:=
 Below b w W/\W.heap[b]?=some (.cells #[.slice none 0 0,.int .i64 0] 30 (0,0))/\
 W.ownsMap Tryz.prog 9 (plainElem Tryz.prog 3) c 5 D1/\W.ownsMap Tryz.prog 9 (plainElem Tryz.prog 3) d 5 D2/\W.ownsMap Tryz.prog 5 (plainElem Tryz.prog 3) e 4 D3/\
 W.heap[a]?=some (.cells #[.slice none 0 0,.int .i64 0] 30 (0,0))/\b=w.heap.size/\b<a/\c<a/\d<a/\e<a/\a<W.heap.size
set_option maxRecDepth 20000 in
set_option maxHeartbeats 8000000 in
theorem l7 (s:ByteArray) (E:List ai) (d:Int) (hg:jk d E s) (hd:wf d) (f1:ae (E,d)=0) (mm:Int) (w:World) (hm:w.cell? ⟨1,0,none⟩=some (.int .i64 mm)):
  Calls Tryz.prog 63 #[.string s] w λe w'=>∃ pv,e=.returned (.tuple #[pv,.int .i64 0])/\aN w.heap.size w' pv (E,d)/\Below w.heap.size w w':=by
 have ht:=@run_makeMap Tryz.prog
 have e0:=World.ownsMap_made (H:=Unit) (w.alloc (.cells #[.slice none 0 0,.int .i64 0] 30)) Tryz.prog 9 (plainElem Tryz.prog 3)
 simp only[World.size_alloc] at e0
 have Hm:Hid (w.cell? ⟨1,0,none⟩=some (.int .i64 mm)):=hm
 have hv:1<w.heap.size:=World.block_lt_of_cell? _ _ hm
 have Hg:Hid (jk d E s):=hg
 clear hm hg
 go_enter Tryz.func63,Tryz.ntmps63
 go_wp2_with (first
  | (refine aT _ rfl _ _ _ 147 rfl 9 3 gU Tryz.underlying147 (plainElem Tryz.prog 3) (w.heap.size+1) 0 _ rfl e0 (by decide) _ _ _ rfl rfl (Go.WideMaps.keyOf_string_mk Tryz.underlying9 (by decide)) _ [] (plainElem_int Tryz.underlying3 (by decide)) ?_;go_must (intro w1 bd f3;clear e0;have b:=((Below.refl (w.heap.size+1) (w.alloc (.cells #[.slice none 0 0,.int .i64 0] 30))).alloc (by simp) _).grown f3 (by simp) (λk y=>by cases y;exact Nat.le_refl _)))
  | (refine aT _ rfl _ _ _ 147 rfl 9 3 gU Tryz.underlying147 (plainElem Tryz.prog 3) (w.heap.size+1) 1 _ rfl bd (by decide) _ _ _ rfl rfl (Go.WideMaps.keyOf_string_mk Tryz.underlying9 (by decide)) _ [] (plainElem_int Tryz.underlying3 (by decide)) ?_;go_must (intro w2 bf a5;clear bd;replace b:=b.grown a5 (by have:=b.size;simp at this;omega) (λk y=>by cases y;exact Nat.le_refl _)))
  | (refine aT _ rfl _ _ _ 147 rfl 9 3 gU Tryz.underlying147 (plainElem Tryz.prog 3) (w.heap.size+1) 2 _ rfl bf (by decide) _ _ _ rfl rfl (Go.WideMaps.keyOf_string_mk Tryz.underlying9 (by decide)) _ [] (plainElem_int Tryz.underlying3 (by decide)) ?_;go_must (intro w3 bg f4;clear bf;replace b:=b.grown f4 (by have:=b.size;simp at this;omega) (λk y=>by cases y;exact Nat.le_refl _)))
  | (refine aT _ rfl _ _ _ 147 rfl 9 3 gU Tryz.underlying147 (plainElem Tryz.prog 3) (w.heap.size+1) 3 _ rfl bg (by decide) _ _ _ rfl rfl (Go.WideMaps.keyOf_string_mk Tryz.underlying9 (by decide)) _ [] (plainElem_int Tryz.underlying3 (by decide)) ?_;go_must (intro w4 bk f5;clear bg;replace b:=b.grown f5 (by have:=b.size;simp at this;omega) (λk y=>by cases y;exact Nat.le_refl _)))
  | (refine aT _ rfl _ _ _ 147 rfl 9 3 gU Tryz.underlying147 (plainElem Tryz.prog 3) (w.heap.size+1) 4 _ rfl bk (by decide) _ _ _ rfl rfl (Go.WideMaps.keyOf_string_mk Tryz.underlying9 (by decide)) _ [] (plainElem_int Tryz.underlying3 (by decide)) ?_;go_must (intro w5 a6 fa;clear bk;replace b:=b.grown fa (by have:=b.size;simp at this;omega) (λk y=>by cases y;exact Nat.le_refl _);have C:=a6;have hx:=a6.lt;have fd:=World.ownsMap_made (H:=Unit) w5 Tryz.prog 9 (plainElem Tryz.prog 3);have b9:w.heap.size+1<=w5.heap.size:=by have:=b.size;simp at this;omega))
  | (refine aT _ rfl _ _ _ 147 rfl 9 3 gU Tryz.underlying147 (plainElem Tryz.prog 3) w5.heap.size 0 _ rfl fd (by decide) _ _ _ rfl rfl (Go.WideMaps.keyOf_string_mk Tryz.underlying9 (by decide)) _ [] (plainElem_int Tryz.underlying3 (by decide)) ?_;go_must (intro w6 bo e1;clear fd;replace b:=(b.alloc (by have:=b.size;simp at this;omega) _).grown e1 (by have:=b.size;simp at this |-;omega) (λk y=>by cases y;have:=b.size;simp at this;omega);replace C:=(C.alloc _).kept e1 (by have:=C.lt;simp;omega)))
  | (refine aT _ rfl _ _ _ 147 rfl 9 3 gU Tryz.underlying147 (plainElem Tryz.prog 3) w5.heap.size 1 _ rfl bo (by decide) _ _ _ rfl rfl (Go.WideMaps.keyOf_string_mk Tryz.underlying9 (by decide)) _ [] (plainElem_int Tryz.underlying3 (by decide)) ?_;go_must (intro w7 bp e2;clear bo;replace b:=b.grown e2 (by have:=b.size;simp at this;omega) (λk y=>by cases y;exact b9);replace C:=C.kept e2 (by simp;omega)))
  | (refine aT _ rfl _ _ _ 147 rfl 9 3 gU Tryz.underlying147 (plainElem Tryz.prog 3) w5.heap.size 2 _ rfl bp (by decide) _ _ _ rfl rfl (Go.WideMaps.keyOf_string_mk Tryz.underlying9 (by decide)) _ [] (plainElem_int Tryz.underlying3 (by decide)) ?_;go_must (intro w8 bq e3;clear bp;replace b:=b.grown e3 (by have:=b.size;simp at this;omega) (λk y=>by cases y;exact b9);replace C:=C.kept e3 (by simp;omega)))
  | (refine aT _ rfl _ _ _ 147 rfl 9 3 gU Tryz.underlying147 (plainElem Tryz.prog 3) w5.heap.size 3 _ rfl bq (by decide) _ _ _ rfl rfl (Go.WideMaps.keyOf_string_mk Tryz.underlying9 (by decide)) _ [] (plainElem_int Tryz.underlying3 (by decide)) ?_;go_must (intro w9 br e4;clear bq;replace b:=b.grown e4 (by have:=b.size;simp at this;omega) (λk y=>by cases y;exact b9);replace C:=C.kept e4 (by simp;omega)))
  | (refine aT _ rfl _ _ _ 147 rfl 9 3 gU Tryz.underlying147 (plainElem Tryz.prog 3) w5.heap.size 4 _ rfl br (by decide) _ _ _ rfl rfl (Go.WideMaps.keyOf_string_mk Tryz.underlying9 (by decide)) _ [] (plainElem_int Tryz.underlying3 (by decide)) ?_;go_must (intro S N bs;clear br;replace b:=b.grown bs (by have:=b.size;simp at this;omega) (λk y=>by cases y;exact b9);replace C:=C.kept bs (by simp;omega);have K2:=N;have hy:=N.lt;have fe:=World.ownsMap_made (H:=Unit) S Tryz.prog 5 (plainElem Tryz.prog 3);have ci:w.heap.size+1<=S.heap.size:=by have:=b.size;simp at this;omega))
  | (refine aT _ rfl _ _ _ 148 rfl 5 3 tZ Tryz.underlying148 (plainElem Tryz.prog 3) S.heap.size 0 _ rfl fe (by decide) _ _ _ rfl rfl (keyOf_int_mk Tryz.underlying5 (by decide)) _ [] (plainElem_int Tryz.underlying3 (by decide)) ?_;go_must (intro lW ac ad;clear fe;replace b:=(b.alloc (by have:=b.size;simp at this;omega) _).grown ad (by have:=b.size;simp at this |-;omega) (λk y=>by cases y;have:=b.size;simp at this;omega);replace C:=(C.alloc _).kept ad (by have:=C.lt;simp;omega);replace K2:=(K2.alloc _).kept ad (by have:=K2.lt;simp;omega)))
  | (refine aT _ rfl _ _ _ 148 rfl 5 3 tZ Tryz.underlying148 (plainElem Tryz.prog 3) S.heap.size 1 _ rfl ac (by decide) _ _ _ rfl rfl (keyOf_int_mk Tryz.underlying5 (by decide)) _ [] (plainElem_int Tryz.underlying3 (by decide)) ?_;go_must (intro m2 ak ao;clear ac;replace b:=b.grown ao (by have:=b.size;simp at this;omega) (λk y=>by cases y;exact ci);replace C:=C.kept ao (by simp;omega);replace K2:=K2.kept ao (by simp;omega)))
  | (refine aT _ rfl _ _ _ 148 rfl 5 3 tZ Tryz.underlying148 (plainElem Tryz.prog 3) S.heap.size 2 _ rfl ak (by decide) _ _ _ rfl rfl (keyOf_int_mk Tryz.underlying5 (by decide)) _ [] (plainElem_int Tryz.underlying3 (by decide)) ?_;go_must (intro m3 av b2;clear ak;replace b:=b.grown b2 (by have:=b.size;simp at this;omega) (λk y=>by cases y;exact ci);replace C:=C.kept b2 (by simp;omega);replace K2:=K2.kept b2 (by simp;omega)))
  | (refine aT _ rfl _ _ _ 148 rfl 5 3 tZ Tryz.underlying148 (plainElem Tryz.prog 3) S.heap.size 3 _ rfl av (by decide) _ _ _ rfl rfl (keyOf_int_mk Tryz.underlying5 (by decide)) _ [] (plainElem_int Tryz.underlying3 (by decide)) ?_;go_must (intro bv O b3;clear av;replace b:=b.grown b3 (by have:=b.size;simp at this;omega) (λk y=>by cases y;exact ci);replace C:=C.kept b3 (by simp;omega);replace K2:=K2.kept b3 (by simp;omega);have K3:=O;have hz:=O.lt)))
 have L5:Ep w (bv.alloc (.cells #[.slice none 0 0,.int .i64 0] 30)) w.heap.size (w.heap.size+1) w5.heap.size S.heap.size bv.heap.size:=by
  have fi:=b.size
  simp at fi
  refine⟨((Below.refl _ _).alloc (Nat.le_refl _) _).trans ((b.alloc (by simpa using fi) _).mono (by omega)),?_,C.alloc _,K2.alloc _,K3.alloc _,?_,rfl,by omega,C.lt,K2.lt,K3.lt,by simp⟩
  ·rw[Below.heap_alloc _ _ _ (by omega),b.block _ (by omega)]
   exact (MapKept.heap_alloc w _).1
  ·exact (MapKept.heap_alloc bv _).1
 clear b C K2 K3 hx hy hz b9 ci a6 N O f3 a5 f4 f5 fa e1 e2 e3 e4 bs ad ao b2 b3 ht
 have bx:Hid _:=L5
 clear L5
 generalize bv.alloc (.cells #[.slice none 0 0,.int .i64 0] 30)=W at*
 generalize w5.heap.size=M2 at*
 generalize S.heap.size=M3 at*
 generalize bv.heap.size=z at*
 generalize b9:w.heap.size+1=M1 at*
 generalize hB:w.heap.size=R0 at*
 have hC:=bx.out
 obtain⟨hD,hE,_,_,_,hF,_,hG,fl,hH,hI,hJ⟩:=hC
 go_loopw [0] (λsv wr=>∃ (i:Nat) (s':ByteArray) (rv:Value) (xs:List Value),i<=E.length/\sv=.string s'/\Hid (jk d (E.drop i) s')/\Below z W wr/\Hid (wr.heap[z]?=some (.cells #[rv,.int .i64 0] 30 (0,0)))/\Hid (wr.ownsRow (z+1) 142 2 rv i xs)/\Hid (bN (z+1) wr (E.take i) xs)/\z<wr.heap.size) (λsv _=>Cx sv)
 case atStart=>exact⟨0,s,.slice none 0 0,[],Nat.zero_le _,rfl,by simpa using Hg,Below.refl _ _,hF,⟨rfl,.inl ⟨rfl,rfl⟩⟩,rfl,hJ⟩
 case round=>
  obtain⟨i,s',rv,xs,hi,rfl,G,T,HP,HO,HR,fn⟩:=hrel
  obtain⟨F,hN⟩:∃ x,x=wr:=⟨_,rfl⟩
  subst hN
  have fo:=hD.trans (T.mono (by omega))
  have l3:=T.size
  have cn:F.cell? ⟨1,0,none⟩=some (.int .i64 mm):=(fo.cell (p:=⟨1,0,none⟩) hv).trans Hm.out
  by_cases co:i<E.length
  ·obtain⟨r,hr⟩:∃ r,E[i]?=some r:=⟨E[i],by simp[co]⟩
   have G':=G.out
   rw[List.drop_eq_getElem_cons co] at G'
   obtain⟨t,s2,cp,U,fr,⟨w0,ws,c2,e6,hR,fs,ba,e7,cx,m4,e8⟩,G2⟩:=G'
   have hS:E[i]'co=r:=by rw[List.getElem?_eq_getElem co] at hr;exact Option.some.inj hr
   rw[hS] at ba cx e8
   have a7:Hid _:=xT s' t s2 true mm F cp cn U
   have Q:Hid (∀ w1,Below F.heap.size F w1->_):=λw1 R=>se t (w0 :: ws) ws.length mm w1 hR ((R.cell (p:=⟨1,0,none⟩) (by show 1<_;omega)).trans cn) e6 c2
   have e9:Hid (F.ownsMap Tryz.prog 9 (plainElem Tryz.prog 3) M1 5 D1):=dx bx.out.2.2.1 T fl
   have hT:Hid (F.ownsMap Tryz.prog 9 (plainElem Tryz.prog 3) M2 5 D2):=dx bx.out.2.2.2.1 T hH
   have fv:Hid (F.ownsMap Tryz.prog 5 (plainElem Tryz.prog 3) M3 4 D3):=dx bx.out.2.2.2.2.1 T hI
   have fx:Hid (∀ (j:Nat) u c,ws[j]?=some u->r.1[j]?=some c->j9 u c):=e8
   have c3:Hid (D1.atKey (.string w0.data.toList) kg=.lit (.int .i64 r.2)):=ba
   have hU:Hid (jk d (E.drop (i+1)) s2):=G2
   clear U c2 e8 ba G2
   obtain⟨cs,vd⟩:=r
   simp only[] at cx
   have da:Hid (ws.length=cs.length):=cx
   clear cx
   generalize m6:ws.length=n at*
   have l5:n<4294967281:=by have:=Lib.countB_le jA (by decide) t.size t (Nat.le_refl _);omega
   have n0:(0:Int)<(n:Int):=by omega
   go_wp2_with (first
    | (go_at_call 95;go_must (refine Calls.mono a7.out ?_;rintro e w1 ⟨rfl,a8⟩))
    | (go_at_call 96;go_must (refine Calls.mono (Q.out _ a8) ?_;rintro e w2 ⟨SB,rfl,ea,hV,dc,B⟩;have f:=Below.thenOf a8 ea a8.size;have c0:=B 0 w0 rfl;have C:=dx e9.out f (by omega)))
    | (at_lookup;go_must (refine wpList_lookup_own_ok_int _ rfl _ _ 147 rfl 9 3 .i64 gU Tryz.underlying147 Tryz.underlying3 (oq _) M1 5 _ rfl C _ _ rfl (WideMaps.keyOf_string_mk Tryz.underlying9 e7) ?_;intro c b4 fT;obtain rfl:c=vd:=mH (b4.symm.trans c3.out))))
   have eb:Below w2.heap.size w2 (w2.alloc (.cells #[.slice none 0 0,.int .i64 c] 142)):=(Below.refl _ _).alloc (Nat.le_refl _) _
   have hY:Hid ((w2.alloc (.cells #[.slice none 0 0,.int .i64 c] 142)).heap[w2.heap.size]?=some (.cells #[.slice none 0 0,.int .i64 c] 142 (0,0))):=(MapKept.heap_alloc w2 _).1
   have hZ:w2.heap.size<(w2.alloc (.cells #[.slice none 0 0,.int .i64 c] 142)).heap.size:=by simp
   have dd:Below F.heap.size F (w2.alloc (.cells #[.slice none 0 0,.int .i64 c] 142)):=Below.thenOf f eb f.size
   have c4:Hid (∀ (j:Nat) u,(w0 :: ws)[j]?=some u->(w2.alloc (.cells #[.slice none 0 0,.int .i64 c] 142)).cell? ⟨SB,j,none⟩=some (.string u)):=λj u h=>(eb.cell (p:=⟨SB,j,none⟩) dc).trans (B j u h)
   have g0:=f.size
   clear B c0 C b4 fT eb
   generalize w2.alloc (.cells #[.slice none 0 0,.int .i64 c] 142)=W7 at*
   generalize w2.heap.size=D at*
   go_loopw [70] (λjv A=>∃ (j:Nat) (cv:Value),j<=n/\jv=.int .i64 j/\Below D W7 A/\Hid (A.heap[D]?=some (.cells #[cv,.int .i64 c] 142 (0,0)))/\Hid (A.ownsRow (D+1) 145 3 cv j (cX (cs.take j)))/\D<A.heap.size) (λjv _=>n-(intOf jv).toNat)
   case atStart=>exact⟨0,.slice none 0 0,Nat.zero_le _,rfl,Below.refl _ _,hY,⟨rfl,.inl ⟨rfl,rfl⟩⟩,hZ⟩
   case round=>
    obtain⟨j,cv,hj,rfl,cT,g1,ec,i2⟩:=hrel
    obtain⟨A,i3⟩:∃ x,x=wr:=⟨_,rfl⟩
    subst i3
    have j0:(0:Int)<=(j:Int):=by omega
    by_cases m8:j<n
    ·have j1:(j:Int)<(n:Int):=by omega
     obtain⟨u,hu⟩:∃ u,ws[j]?=some u:=⟨ws[j]'(by omega),by simp⟩
     have g3:cs.length=n:=by have:=da.out;omega
     obtain⟨l,g4⟩:∃ l,cs[j]?=some l:=⟨cs[j]'(by omega),by simp⟩
     have g5:Hid (cs[j]?=some l):=g4
     have i4:Hid (j9 u l):=fx.out j u l hu g4
     have m9:A.cell? ⟨SB,1+j,none⟩=some (.string u):=(cT.cell (p:=⟨SB,1+j,none⟩) (by show SB<D;omega)).trans (c4.out (1+j) u (by rw[Nat.add_comm];simpa using hu))
     obtain⟨K,m,hK,l9,g6,de,g7,i5,g8,g9,ed,di,dk⟩:=i4.out
     have gb:Hid (∀ i,i<K->D3.atKey (.int .u8 (u.data.toList.getD i 0).toNat) kg=kg):=g6
     have c5:Hid (D3.atKey (.int .u8 (u.data.toList.getD K 0).toNat) kg=.lit (.int .i64 l.2.1)):=de
     have gj:Hid (D2.atKey (.string (u.data.toList.take K)) kg=.lit (.int .i64 l.1)):=g8
     have ee:Hid (Lib.parseIntB 64 (u.data.toList.drop (K+1))=.ok (m:Int)):=di
     have ef:Hid (Lib.decDigits m=u.data.toList.drop (K+1)):=dk
     have o:Below F.heap.size F A:=dd.trans (cT.mono (by omega))
     have K3:A.ownsMap Tryz.prog 5 (plainElem Tryz.prog 3) M3 4 D3:=dx fv.out o (by omega)
     have i6:Hid (∀ i,∃ c',(Instr.lookup 148 (.map (some M3)) (.int .u8 (u.data.toList.getD i 0).toNat) false).run Tryz.prog A=.ok (.int .i64 c') A/\D3.atKey (.int .u8 (u.data.toList.getD i 0).toNat) kg=.lit (.int .i64 c')):=by
      intro i
      obtain⟨c',R,h2,_⟩:=K3.lookup_int tZ Tryz.underlying148 Tryz.underlying3 (oq _) (keyOf_int_mk Tryz.underlying5 (a:=(u.data.toList.getD i 0).toNat) (WalkArith.wf_u8 (by have:=(u.data.toList.getD i 0).toNat_lt;omega)))
      exact⟨c',R,h2⟩
     clear g6 de g8 di dk K3
     go_wp2
     go_loop [18] (λkv=>∃ k:Nat,k<=K/\kv=.int .i64 k) (λkv=>K-(intOf kv).toNat)
     case atStart=>exact⟨0,Nat.zero_le _,rfl⟩
     case round=>
      obtain⟨k,y,rfl⟩:=hrel
      have k0:(0:Int)<=(k:Int):=by omega
      have k1:(k:Int)<(u.size:Int):=by omega
      obtain⟨c',dl,dn⟩:=i6.out k
      rw[A7 u k (by omega)] at dl
      by_cases io:k<K
      ·obtain rfl:c'=0:=mH (dn.symm.trans (gb.out k io))
       go_wp2
       exact⟨⟨k+1,by omega,by go_num⟩,by simp[intOf];omega⟩
      ·obtain rfl:k=K:=by omega
       obtain rfl:c'=l.2.1:=mH (dn.symm.trans c5.out)
       have mc:(l.2.1==0)=false:=by simpa using g7
       have md:((k:Int)==(u.size:Int))=false:=by simp;omega
       have K2:A.ownsMap Tryz.prog 9 (plainElem Tryz.prog 3) M2 5 D2:=dx hT.out o (by omega)
       have la:Maps.has D2 (.string (u.extract 0 k).data.toList)=true:=by rw[oD];exact i5
       have iv:Hid (D2.atKey (.string (u.extract 0 k).data.toList) kg=.lit (.int .i64 l.1)):=by unfold Hid;rw[oD];exact gj.out
       have ix:(u.extract 0 k).size<=maxLen:=by have:=ag;simp;omega
       have iO:Hid (Calls Tryz.prog 97 #[.string (u.extract (k+1) u.size)] A λe w'=>e=.returned (.tuple #[.int .i64 m,.bool true])/\Below A.heap.size A w'):=wH _ m ed (by simp;omega) (by rw[oI];exact ee.out) (by rw[ef.out,<-oI]) A
       go_wp2_with (first
        | (at_lookup;refine wpList_lookup_own_ok_int _ rfl _ _ 147 rfl 9 3 .i64 gU Tryz.underlying147 Tryz.underlying3 (oq _) M2 5 _ rfl K2 _ _ rfl (WideMaps.keyOf_string_mk Tryz.underlying9 ix) ?_;go_must (intro fc go lb;obtain rfl:fc=l.1:=mH (go.symm.trans iv.out)))
        | (go_at_call 97;go_must (refine Calls.mono iO.out ?_;rintro e wj ⟨rfl,gp⟩)))
       have mf:=gp.size
       obtain⟨I,eg⟩:∃ I,I=wj.drew:=⟨_,rfl⟩
       have V:Below A.heap.size A I:=by rw[eg];exact gp.drew
       have gr:Below D W7 I:=Below.thenOf cT V (by omega)
       have gs:Below F.heap.size F I:=Below.thenOf o V o.size
       have c6:I.heap[D]?=some (.cells #[cv,.int .i64 c] 142 (0,0)):=by
        have:=V.block D i2
        rw[g1.out] at this
        exact this
       have dp:I.ownsRow (D+1) 145 3 cv j (cX (cs.take j)):=au ec.out V
       have ej:I.ownsMap Tryz.prog 5 (plainElem Tryz.prog 3) M3 4 D3:=dx fv.out gs (by omega)
       have mn:D+1<=I.heap.size:=by have:=V.size;omega
       clear dl
       obtain⟨W1,d1⟩:∃ W1,W1=I.alloc (.cells #[.int .i64 l.1,.int .i64 l.2.1,.int .i64 m] 145):=⟨_,rfl⟩
       have L:Below I.heap.size I W1:=by rw[d1];exact (Below.refl _ _).alloc (Nat.le_refl _) _
       have Y:=au dp L
       have gv:∀ q v,[Value.int .i64 l.1,.int .i64 l.2.1,.int .i64 m][q]?=some v->W1.cell? ((⟨I.heap.size,0,none⟩:Addr).add q)=some v:=by
        intro q v hq
        have:q<3:=by have:=(List.getElem?_eq_some_iff.1 hq).1;simpa using this
        have:q=0\/q=1\/q=2:=by omega
        rw[d1]
        rcases this with rfl | rfl | rfl<;>simp at hq<;>subst hq<;>simp[go_sem,Addr.add]
       have ld:j<=4294967280:=by omega
       obtain⟨el,em,en,ep,eq⟩:=xp
       obtain⟨v2,W2,d2,b6,a5,le⟩:=run_append_own (P:=Tryz.prog) W1 (D+1) 140 140 145 el _ 3 24 Tryz.underlying140 em en ep eq rfl (by decide) cv j (cX (cs.take j)) Y ⟨I.heap.size,0,none⟩ 1 1 [.int .i64 l.1,.int .i64 l.2.1,.int .i64 m] rfl gv (by simp[Value.oneCell']) (by have:=ag;omega) (by omega) (by have:=L.size;omega)
       have c7:W1.heap[D]?=some (.cells #[cv,.int .i64 c] 142 (0,0)):=(L.block D (by omega)).trans c6
       have lf:=L.size
       have dq:cv.ownBlock≠some D:=by
        intro h
        obtain⟨_,⟨h2,_⟩ | ⟨g,a9,J,rfl,h3,_⟩⟩:=Y
        ·rw[h2] at h;cases h
        ·simp[Value.ownBlock] at h;omega
       have Z:W2.heap[D]?=some (.cells #[cv,.int .i64 c] 142 (0,0)):=(a5.block D (by omega) (λh=>dq h.symm)).trans c7
       have er:=dx ej L (by omega)
       have dr:some M3≠cv.ownBlock:=by
        intro h
        obtain⟨_,⟨h2,_⟩ | ⟨g,a9,J,rfl,h3,_⟩⟩:=Y
        ·rw[h2] at h;cases h
        ·simp[Value.ownBlock] at h;omega
       have gz:=er.kept a5 dr
       have lk:∀ W,W.ownsMap Tryz.prog 5 (plainElem Tryz.prog 3) M3 4 D3->(Instr.lookup 148 (.map (some M3)) (.int .u8 (u[k]'(by omega)).toNat) false).run Tryz.prog W=.ok (.int .i64 l.2.1) W:=by
        intro W hW
        obtain⟨c',R,h2,_⟩:=hW.lookup_int tZ Tryz.underlying148 Tryz.underlying3 (oq _) (keyOf_int_mk Tryz.underlying5 (a:=(u.data.toList.getD k 0).toNat) (WalkArith.wf_u8 (by have:=(u.data.toList.getD k 0).toNat_lt;omega)))
        obtain rfl:c'=l.2.1:=mH (h2.symm.trans c5.out)
        rw[A7 u k (by omega)] at R
        exact R
       have j3:=lU.ne I W1 W2
       have q0:∀ x:lU I W1 W2,x.1.cell? ⟨D,0,none⟩=some cv:=lU.all (p:=λw=>w.cell? ⟨D,0,none⟩=some cv) (ah c6).1 (ah c7).1 (ah Z).1
       have q1:∀ x:lU I W1 W2,(Instr.lookup 148 (.map (some M3)) (.int .u8 (u[k]'(by omega)).toNat) false).run Tryz.prog x.1=.ok (.int .i64 l.2.1) x.1:=lU.all (p:=λw=>(Instr.lookup 148 (.map (some M3)) (.int .u8 (u[k]'(by omega)).toNat) false).run Tryz.prog w=.ok (.int .i64 l.2.1) w) (lk _ ej) (lk _ er) (lk _ gz)
       have mv:(k:Int)<(u.size:Int):=by omega
       have j4:Hid (I=wj.drew):=eg
       have gA:Hid (W1=I.alloc (.cells #[.int .i64 l.1,.int .i64 l.2.1,.int .i64 m] 145)):=d1
       have ja:Hid ((Builtin.append_ #[140,140] 140 #[cv,.slice (some ⟨I.heap.size,0,none⟩) 1 1]).run Tryz.prog W1=.ok v2 W2):=d2
       have gW:Hid (∀ k,cv.ownBlock=some k->D<=k):=by
        intro k h
        obtain⟨_,⟨h2,_⟩ | ⟨g,a9,J,rfl,h3,_⟩⟩:=Y
        ·rw[h2] at h;cases h
        ·simp[Value.ownBlock] at h;omega
       clear ej er gz lk c6 c7 dp Y dq dr eg d1 d2 gv
       refine lB [_,_,_,_,_,_,_,_,_,_,_,_,_] _ rfl (λk=>k==10||k==11) (qP I W1 W2) (λw=>∃ x:lU I W1 W2,w=x.1) (by kernel_rfl) (by kernel_rfl) AG (.inl ⟨rfl,j4.out.symm⟩) ?_
       repeat (refine wC rfl rfl ?_;go_big_quiet_step (fail);refine wpQuiet_nil ?_)
       refine tP rfl rfl (.slice (some ⟨I.heap.size,0,none⟩) 1 1) (λw hw=>⟨W1,.inr (.inl ⟨rfl,rfl⟩),?_⟩) ?_
       ·rw[Cy hw,gA.out]
        clear gA
        go_simp
       refine tP rfl rfl v2 (λw hw=>⟨W2,.inr (.inr ⟨rfl,rfl⟩),?_⟩) ?_
       ·rw[Cw hw]
        have d2:=ja.out
        unfold execOp
        simp only[resolve,invoke,builtin,Sem.run_bind,Sem.run_pure,Result.andThen_ok,List.map_toArray,List.map_cons,List.map_nil]
        exact (congrArg (λr=>Result.andThen r λv w=>.ok (Next.value v) w) d2)
       simp only[Act.put,List.setIfInBounds_toArray,List.set_cons_succ,List.set_cons_zero]
       repeat (refine wC rfl rfl ?_;go_big_quiet_step (fail);refine wpQuiet_nil ?_)
       refine Dz ?_
       intro wx h4
       rw[CO h4]
       clear q0 q1 j3 h4 wx
       obtain⟨g2,a0,rfl⟩:∃ g2 a0,v2=.slice (some ⟨g2,0,none⟩) (j+1) a0:=by
        obtain⟨_,⟨_,h0⟩ | ⟨g,a9,J,R,_⟩⟩:=b6
        ·omega
        ·exact⟨g,a9,R⟩
       have ln:D+1<=g2:=by
        obtain⟨_,⟨h0,_⟩ | ⟨g,a9,J,R,h2,_⟩⟩:=b6
        ·cases h0
        ·cases R;exact h2
       have bb:Below D W7 (W2.setCell ⟨D,0,none⟩ (.slice (some ⟨g2,0,none⟩) (j+1) a0)):=((Below.thenOf gr L (by omega)).grown a5 (by omega) (gW.out)).setCell (Nat.le_refl _) _
       have ds:=cG (u:=.slice (some ⟨g2,0,none⟩) (j+1) a0) Z
       have c8:=ownsRow_setCell_other b6 (a:=⟨D,0,none⟩) (by simp[Value.ownBlock];omega) (.slice (some ⟨g2,0,none⟩) (j+1) a0)
       have lo:D<W2.heap.size:=lt_of_block Z
       obtain⟨t0,_,t1,_⟩:=ah Z
       have lr:l=(l.1,l.2.1,(m:Int)):=by rw[<-g9]
       rw[show ([.int .i64 l.1,.int .i64 l.2.1,.int .i64 (m:Int)]:List Value)=[.int .i64 l.1,.int .i64 l.2.1,.int .i64 l.2.2] by rw[g9],<-qT cs j l g5.out] at c8
       have k2:Hid _:=bb
       have es:Hid _:=ds
       have et:Hid _:=c8
       clear bb ds c8 b6 Z a5
       go_wp2
       exact⟨⟨j+1,_,by omega,by go_num,k2.out,es.out,et.out,by simp;omega⟩,by simp[intOf];omega⟩
    ·obtain rfl:j=n:=by omega
     have g3:cs.length=j:=by have:=da.out;omega
     have o:Below F.heap.size F A:=dd.trans (cT.mono (by omega))
     have ls:=o.size
     have eu:A.heap[z]?=some (.cells #[rv,.int .i64 0] 30 (0,0)):=(o.block z fn).trans HP.out
     have h5:=au HO.out o
     have h6:A.ownsRow (D+1) 145 3 cv cs.length (cX cs):=by
      have:=ec.out
      rw[<-g3,List.take_length] at this
      exact this
     have h7:=bN.step (w':=A) (λg J _ hg=>o.block g (lt_of_block hg)) _ _ HR.out
     obtain⟨gc,M,rfl⟩:∃ gc M,cv=.slice (some ⟨gc,0,none⟩) j M:=by
      obtain⟨_,⟨_,h0⟩ | ⟨g,a9,J,R,_⟩⟩:=ec.out
      ·omega
      ·exact⟨g,a9,R⟩
     obtain⟨p0,p1,k3,k4⟩:=ah eu
     obtain⟨b0,b1,n5,n6⟩:=ah g1.out
     have h8:Hid _:=eu
     have b7:Hid (A.ownsRow (z+1) 142 2 rv i xs):=h5
     have h9:Hid (A.ownsRow (D+1) 145 3 (.slice (some ⟨gc,0,none⟩) j M) cs.length (cX cs)):=h6
     have ha:Hid (bN (z+1) A (E.take i) xs):=h7
     clear eu h5 h6 h7
     obtain⟨el,em,en,ep,eq⟩:=wD
     have k5:E.length<=120:=(cu f1).1
     have hb:Hid (∀ X,X=Obj.cells #[.slice (some ⟨gc,0,none⟩) j M,.int .i64 c] 142->∀ q v,[Value.slice (some ⟨gc,0,none⟩) j M,.int .i64 c][q]?=some v->(A.alloc X).cell? ((⟨A.heap.size,0,none⟩:Addr).add q)=some v):=by
      intro X hX q v hq
      subst hX
      have:q<2:=by have:=(List.getElem?_eq_some_iff.1 hq).1;simpa using this
      have:q=0\/q=1:=by omega
      rcases this with rfl | rfl<;>simp at hq<;>subst hq<;>simp[go_sem,Addr.add]
     have d3:Hid (∀ X,(A.alloc X).ownsRow (z+1) 142 2 rv i xs):=λX=>au b7.out ((Below.refl _ _).alloc (Nat.le_refl _) X)
     go_wp2_with (first
      | (at_builtin;refine wpList_append_own _ rfl _ _ 28 rfl (z+1) 142 el _ 2 32 Tryz.underlying28 em en ep eq rfl (by decide) rv i xs rfl (d3.out _) ⟨A.heap.size,0,none⟩ 1 1 [.slice (some ⟨gc,0,none⟩) j M,.int .i64 c] rfl rfl (hb.out _ rfl) (by simp[Value.oneCell']) (by have:=ag;omega) (by omega) (by simp;omega) ?_;go_must (intro v' wk c9 ca k6;obtain⟨gk,capk,rfl,hgk⟩:=ng c9 (by omega);have ev:=(ca.block z (by simp;omega) (λh=>by have:=eS b7.out z h.symm;omega)).trans ((Below.heap_alloc _ _ _ (by omega)).trans h8.out);obtain⟨k0,k1,n8,n9⟩:=ah ev)))
     have hc:∀ (g:Nat) (J:Array Value),z+1<=g->A.heap[g]?=some (.cells J 145 (0,0))->(wk.setCell ⟨z,0,none⟩ (.slice (some ⟨gk,0,none⟩) (i+1) capk)).heap[g]?=A.heap[g]?:=by
      intro g J hg hh
      have k7:=lt_of_block hh
      rw[Below.heap_setCell _ _ _ _ (by show g≠z;omega),ca.block g (by simp;omega) (λh=>?_),Below.heap_alloc _ _ _ k7]
      obtain⟨lv,h'⟩:=dh b7.out g h.symm
      rw[hh] at h'
      simp at h'
     have bb:Below z W (wk.setCell ⟨z,0,none⟩ (.slice (some ⟨gk,0,none⟩) (i+1) capk)):=(((Below.thenOf T o (by omega)).alloc (by omega) _).grown ca (by simp;omega) (λk y=>by have:=eS b7.out k y;omega)).setCell (Nat.le_refl _) _
     have k8:=ct (cK h9.out (by omega:z+1<=D+1)) hc
     have ka:=bN.push (cs,c) _ k8 _ _ (bN.step hc _ _ ha.out)
     have kc:E.take (i+1)=E.take i++[(cs,c)]:=by rw[List.take_add_one,hr];rfl
     refine⟨⟨i+1,s2,_,_,by omega,rfl,hU.out,bb,cG ev,ownsRow_setCell_other c9 (a:=⟨z,0,none⟩) (by simp[Value.ownBlock];omega) _,?_,by have:=lt_of_block ev;simpa using this⟩,by simpa [Cx] using fr⟩
     unfold Hid
     rw[kc]
     exact ka
  ·obtain rfl:i=E.length:=by omega
   have G':=G.out
   rw[List.drop_eq_nil_of_le (Nat.le_refl _)] at G'
   obtain⟨cp,U,c2,e6,fs,ba⟩:=G'
   have a7:Hid _:=xT s' s' ⟨#[]⟩ false mm F cp cn U
   have Q:Hid (∀ w1,Below F.heap.size F w1->_):=λw1 R=>se s' [s'] 0 mm w1 cp ((R.cell (p:=⟨1,0,none⟩) (by show 1<_;omega)).trans cn) e6 c2
   have e9:Hid (F.ownsMap Tryz.prog 9 (plainElem Tryz.prog 3) M1 5 D1):=dx bx.out.2.2.1 T fl
   have c3:Hid (D1.atKey (.string s'.data.toList) kg=.lit (.int .i64 d)):=ba
   have e7:s'.size<=maxLen:=by have:=ag;omega
   have na:Hid (E.take E.length=E):=List.take_length
   clear U c2 ba
   have kd:Hid (bN (z+1) F E xs):=by
    have:=HR.out
    rw[List.take_length] at this
    exact this
   obtain⟨ra,b8,rfl,_,_,_⟩:=ax HO.out
   have HF:Hid (∀ wF:World,(∀ g,z+1<=g->g<F.heap.size->wF.heap[g]?=F.heap[g]?)->F.heap.size<=wF.heap.size->bG wF.heap.size wF (.agg #[.slice ra E.length b8,.int .i64 d]) (E,d)):=by
    intro wF R h2
    exact BV (ct HO.out λg J hg hh=>R g hg (lt_of_block hh)) (bN.step (λg J hg hh=>R g hg (lt_of_block hh)) _ _ kd.out) f1 (Nat.le_refl _)
   generalize nc:E.length=rn at*
   go_wp2_with (first
    | (go_at_call 95;go_must (refine Calls.mono a7.out ?_;rintro e w1 ⟨rfl,a8⟩))
    | (go_at_call 96;go_must (refine Calls.mono (Q.out _ a8) ?_;rintro e w2 ⟨SB,rfl,ea,hV,dc,B⟩;have f:=Below.thenOf a8 ea a8.size;have c0:=B 0 s' rfl;have C:=dx e9.out f (by omega);have d3:=(f.block z fn).trans HP.out;obtain⟨p0,p1,k3,k4⟩:=ah d3))
    | (at_lookup;go_must (refine wpList_lookup_own_ok_int _ rfl _ _ 147 rfl 9 3 .i64 gU Tryz.underlying147 Tryz.underlying3 (oq _) M1 5 _ rfl C _ _ rfl (WideMaps.keyOf_string_mk Tryz.underlying9 e7) ?_;intro c b4 fT;obtain rfl:c=d:=mH (b4.symm.trans c3.out)))
    | (go_at_call 98;go_must (refine Calls.mono (qC _ _ _ _ (HF.out (w2.setCell ⟨z,1,none⟩ (.int .i64 c)) (λg R h2=>by rw[Below.heap_setCell _ _ _ _ (by show g≠z;omega)];exact f.block g h2) (by have:=f.size;simpa using this)) (Nat.le_refl _)) ?_;rintro e w5 ⟨rfl,cb⟩;have he:=cb.size;have g0:=f.size;have kk:=(cb.block z (by simp;omega)).trans (ch (u:=.int .i64 c) d3);obtain⟨m0,m1,nd,ne⟩:=ah kk;have hf:=(cb.block R0 (by simp;omega)).trans ((Below.heap_setCell _ _ _ _ (by show R0≠z;omega)).trans ((f.block R0 (by omega)).trans ((T.block R0 hG).trans hE)));obtain⟨n0,n1,nl,nm⟩:=ah hf)))
   have kl:=ch (u:=.int .i64 c) (cG (u:=.slice ra rn b8) hf)
   obtain⟨z0,z1,_,_⟩:=ah kl
   have bb:Below R0 w ((w5.setCell ⟨R0,0,none⟩ (.slice ra rn b8)).setCell ⟨R0,1,none⟩ (.int .i64 c)):=(((fo.trans (f.mono (by omega))).setCell (p:=⟨z,1,none⟩) (by show R0<=z;omega) _).trans (cb.mono (by simp;omega)) |>.setCell (p:=⟨R0,0,none⟩) (Nat.le_refl _) _).setCell (p:=⟨R0,1,none⟩) (Nat.le_refl _) _
   refine bodyPost_ret (v:=.tuple #[.agg #[.slice ra rn b8,.int .i64 c],.int .i64 0]) ?_ rfl ⟨_,rfl,λwF l1 l2=>HF.out wF (λg R h2=>(l1 g (by omega) (by simp at he |-;omega)).trans ?_) (Nat.le_trans (by simp at he |-;omega) l2),by rw[hB];exact bb⟩
   ·rw[results_cell_tmp rfl]
    go_simp
   ·rw[Below.heap_setCell _ _ _ _ (by show g≠R0;omega),Below.heap_setCell _ _ _ _ (by show g≠R0;omega),cb.block g (by simp;omega),Below.heap_setCell _ _ _ _ (by show g≠z;omega)]
    exact f.block g h2
end Go.Proofs.YtnpdhopjpjickaaGreatDoor
