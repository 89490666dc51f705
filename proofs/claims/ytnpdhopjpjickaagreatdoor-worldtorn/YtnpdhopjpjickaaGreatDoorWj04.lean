/- Joined: Holds ReadA ReadC Same Rdr RdrR ConC. -/
import Derived.Test.YtnpdhopjpjickaaGreatDoorWj02
import Derived.Test.YtnpdhopjpjickaaGreatDoorWj01
import Derived.Test.YtnpdhopjpjickaaGreatDoorWj03
import Derived.StringKeys
import Derived.Deep.DeepMust
import Derived.Laws.StructEq
import Derived.Laws.ResultCell
import Derived.Laws.MakeOwn
section
set_option linter.all false
namespace Go.Proofs.YtnpdhopjpjickaaGreatDoor
open Go.RowKit Go.Maps
def Er:Value->Option (DataW Unit × List MemPlace)
 | .bool x=>some (.lit (.bool x),[])
 | _=>none
end Go.Proofs.YtnpdhopjpjickaaGreatDoor
end
section
set_option linter.all false
namespace Go.Proofs.YtnpdhopjpjickaaGreatDoor
open Go.RowKit Go.Maps
theorem gU:Maps.Keyed Tryz.prog 9:=Maps.string_keyed Tryz.underlying9
theorem tZ:Maps.Keyed Tryz.prog 5:=Maps.int_keyed Tryz.underlying5
def D1:DataW Unit:=(((((DataW.map []).put (.string [107,105,108,108]) (.lit (.int .i64 0))).put (.string [116,114,97,112]) (.lit (.int .i64 1))).put (.string [102,97,105,108]) (.lit (.int .i64 2))).put (.string [108,111,103]) (.lit (.int .i64 3))).put (.string [97,108,108,111,119]) (.lit (.int .i64 4))
def D2:DataW Unit:=(((((DataW.map []).put (.string [110,114]) (.lit (.int .i64 0))).put (.string [107,105,110,100]) (.lit (.int .i64 1))).put (.string [97]) (.lit (.int .i64 2))).put (.string [98]) (.lit (.int .i64 3))).put (.string [99]) (.lit (.int .i64 4))
def D3:DataW Unit:=((((DataW.map []).put (.int .u8 61) (.lit (.int .i64 1))).put (.int .u8 33) (.lit (.int .i64 2))).put (.int .u8 60) (.lit (.int .i64 3))).put (.int .u8 62) (.lit (.int .i64 4))
def kg:DataW Unit:=.lit (.int .i64 0)
def jA:ByteArray:=⟨#[32]⟩
def j9 (u:ByteArray) (c:aB):Prop:=∃ (K m:Nat),K<u.size/\u.size<4294967281/\
 (∀ i,i<K->D3.atKey (.int .u8 (u.data.toList.getD i 0).toNat) kg=kg)/\
 D3.atKey (.int .u8 (u.data.toList.getD K 0).toNat) kg=.lit (.int .i64 c.2.1)/\c.2.1≠0/\
 Maps.has D2 (.string (u.data.toList.take K))=true/\D2.atKey (.string (u.data.toList.take K)) kg=.lit (.int .i64 c.1)/\
 c.2.2=m/\m<100/\Lib.parseIntB 64 (u.data.toList.drop (K+1))=.ok (m:Int)/\Lib.decDigits m=u.data.toList.drop (K+1)
def oa (t:ByteArray) (r:ai):Prop:=∃ b a,Lib.splitB jA 0 (Lib.countB t jA) t=b :: a/\Lib.countB t jA=a.length/\t.size<4294967281/\
 Maps.has D1 (.string b.data.toList)=true/\D1.atKey (.string b.data.toList) kg=.lit (.int .i64 r.2)/\b.size<=maxLen/\a.length=r.1.length/\0<a.length/\∀ (j:Nat) u c,a[j]?=some u->r.1[j]?=some c->j9 u c
def jk (d:Int):List ai->ByteArray->Prop
 | [],s=>s.size<4294967281/\Lib.cut s.data.toList [59]=(s.data.toList,[],false)/\Lib.splitB jA 0 (Lib.countB s jA) s=[s]/\Lib.countB s jA=0/\Maps.has D1 (.string s.data.toList)=true/\D1.atKey (.string s.data.toList) kg=.lit (.int .i64 d)
 | r :: b,s=>∃ t a,s.size<4294967281/\Lib.cut s.data.toList [59]=(t.data.toList,a.data.toList,true)/\a.size<s.size/\oa t r/\jk d b a
def cX (cs:List aB):List Value:=cs.flatMap λc=>[.int .i64 c.1,.int .i64 c.2.1,.int .i64 c.2.2]
def bN (B:Nat) (w:World):List ai->List Value->Prop
 | [],a=>a=[]
 | r :: d,a=>∃ b c,a=b :: .int .i64 r.2 :: c/\w.ownsRow B 145 3 b r.1.length (cX r.1)/\bN B w d c
theorem sV (s:ByteArray):(⟨s.data.toList.toArray⟩:ByteArray)=s:=by simp
theorem xT (s t c:ByteArray) (q:Bool) (m:Int) (w:World) (f:s.size<4294967281) (g:w.cell? ⟨1,0,none⟩=some (.int .i64 m)) (h:Lib.cut s.data.toList [59]=(t.data.toList,c.data.toList,q)):
  Calls Tryz.prog 95 #[.string s,.string ⟨#[59]⟩] w λe d=>e=.returned (.tuple #[.string t,.string c,.bool q])/\Below w.heap.size w d:=by
 refine (Tryz.strings_Cut s ⟨#[59]⟩ m w f g).mono λe d ⟨a,n,i⟩=>?_
 have b:(⟨#[59]⟩:ByteArray).data.toList=[59]:=rfl
 rw[b,h] at a
 simp only[sV] at a
 subst i
 exact⟨a,Below.drewN_ (Below.refl _ _) n⟩
theorem se (t:ByteArray) (d:List ByteArray) (n:Nat) (m:Int) (w:World) (f:t.size<4294967281) (g:w.cell? ⟨1,0,none⟩=some (.int .i64 m)) (i:Lib.countB t jA=n) (h:Lib.splitB jA 0 (Lib.countB t jA) t=d):
  Calls Tryz.prog 96 #[.string t,.string ⟨#[32]⟩] w λe a=>∃ SB,e=.returned (.slice (some ⟨SB,0,none⟩) (n+1) (n+1))/\Below w.heap.size w a/\w.heap.size<=SB/\SB<a.heap.size/\∀ j u,d[j]?=some u->a.cell? ⟨SB,j,none⟩=some (.string u):=by
 refine (Tryz.strings_Split t ⟨#[32]⟩ m w f g (by decide)).mono λe a ⟨b,c⟩=>?_
 change e=.returned (.slice (some ⟨w.heap.size,0,none⟩) (Lib.countB t jA+1) (Lib.countB t jA+1)) at b
 change a=w.alloc (.cells ((Lib.splitB jA 0 (Lib.countB t jA) t).map Value.string).toArray _) at c
 rw[h] at c
 rw[i] at b
 subst c
 refine⟨w.heap.size,b,(Below.refl _ _).alloc (Nat.le_refl _) _,Nat.le_refl _,by simp,λj u k=>?_⟩
 simp[go_sem,k]
theorem dx {H:Type} {P:Program} {k:TypeId} {R:Value->Option (DataW H × List MemPlace)} {b n B:Nat} {D:DataW H} {w w':World} (h:w.ownsMap P k R b n D) (c:Below B w w') (d:b<B):w'.ownsMap P k R b n D:=by
 obtain⟨e,a,f,F,g,i⟩:=h
 exact⟨e,a,(c.block b d).trans f,F,g,i⟩
theorem A7 (u:ByteArray) (k:Nat) (h:k<u.size):u.data.toList.getD k 0=u[k]'h:=by
 have a:k<u.data.toList.length:=by simpa using h
 rw[List.getD,List.getElem?_eq_getElem a]
 simp
 rfl
theorem oD (u:ByteArray) (k:Nat):(u.extract 0 k).data.toList=u.data.toList.take k:=by
 simp[ByteArray.data_extract]
theorem oI (u:ByteArray) (k:Nat):(u.extract k u.size).data.toList=u.data.toList.drop k:=by
 simp[ByteArray.data_extract]
 exact List.take_of_length_le (by simp)
theorem bN.step {B:Nat} {w w':World} (c:∀ g b,B<=g->w.heap[g]?=some (.cells b 145 (0,0))->w'.heap[g]?=w.heap[g]?):∀ (a:List ai) (xs:List Value),bN B w a xs->bN B w' a xs
 | [],_,h=>h
 | r :: a,xs,h=>by
  obtain⟨e,d,rfl,f,i⟩:=h
  exact⟨e,d,rfl,ct f c,bN.step c a d i⟩
theorem bN.push {B:Nat} {w:World} (r:ai) (cv:Value) (c:w.ownsRow B 145 3 cv r.1.length (cX r.1)):∀ (a:List ai) (xs:List Value),bN B w a xs->bN B w (a++[r]) (xs++[cv,.int .i64 r.2])
 | [],xs,h=>by
  have h:xs=[]:=h
  subst h
  exact⟨cv,[],rfl,c,rfl⟩
 | g :: a,xs,h=>by
  obtain⟨b,d,rfl,e,f⟩:=h
  exact⟨b,d++[cv,.int .i64 r.2],rfl,e,bN.push r cv c a d f⟩
theorem xp:∃ i,Tryz.prog.info? 145=some i/\i.zero=some (.agg #[.int .i64 0,.int .i64 0,.int .i64 0])/\i.size=3/\i.bytes=24:=fD (by kernel_rfl)
theorem wD:∃ i,Tryz.prog.info? 142=some i/\i.zero=some (.agg #[.slice none 0 0,.int .i64 0])/\i.size=2/\i.bytes=32:=fD (by kernel_rfl)
theorem cG {w:World} {b:Nat} {v x u:Value} {t:TypeId} (h:w.heap[b]?=some (.cells #[v,x] t (0,0))):(w.setCell ⟨b,0,none⟩ u).heap[b]?=some (.cells #[u,x] t (0,0)):=by
 have a:=lt_of_block h
 have c:w.heap[b]=.cells #[v,x] t (0,0):=by simpa [Array.getElem?_eq_getElem a] using h
 show (w.heap.modify b _)[b]?=_
 rw[Array.getElem?_eq_getElem (by simpa using a),Array.getElem_modify_self,c]
 rfl
theorem ch {w:World} {b:Nat} {v x u:Value} {t:TypeId} (h:w.heap[b]?=some (.cells #[v,x] t (0,0))):(w.setCell ⟨b,1,none⟩ u).heap[b]?=some (.cells #[v,u] t (0,0)):=by
 have a:=lt_of_block h
 have c:w.heap[b]=.cells #[v,x] t (0,0):=by simpa [Array.getElem?_eq_getElem a] using h
 show (w.heap.modify b _)[b]?=_
 rw[Array.getElem?_eq_getElem (by simpa using a),Array.getElem_modify_self,c]
 rfl
theorem ah {w:World} {b:Nat} {v x:Value} {t:TypeId} (h:w.heap[b]?=some (.cells #[v,x] t (0,0))):w.cell? ⟨b,0,none⟩=some v/\w.cell? ⟨b,1,none⟩=some x/\w.frozen? ⟨b,0,none⟩=false/\w.frozen? ⟨b,1,none⟩=false:=by simp[World.cell?,World.frozen?,h]
theorem qT (cs:List aB) (j:Nat) (c:aB) (h:cs[j]?=some c):cX (cs.take (j+1))=cX (cs.take j)++[.int .i64 c.1,.int .i64 c.2.1,.int .i64 c.2.2]:=by
 unfold cX
 rw[List.take_add_one,h,List.flatMap_append]
 simp
theorem mH {a b:Int} (h:(DataW.lit (.int .i64 a):DataW Unit)=.lit (.int .i64 b)):a=b:=by
 cases h
 rfl
end Go.Proofs.YtnpdhopjpjickaaGreatDoor
end
section
set_option linter.all false
namespace Go.Proofs.YtnpdhopjpjickaaGreatDoor
open Go.RowKit Go.Maps
theorem mR:∀ (cs:List aB) (i:Nat) (c:aB),cs[i]?=some c->(cX cs)[i*3]?=some (.int .i64 c.1)/\(cX cs)[i*3+1]?=some (.int .i64 c.2.1)/\(cX cs)[i*3+2]?=some (.int .i64 c.2.2)
 | [],_,_,h=>by simp at h
 | a :: r,0,c,h=>by
  simp at h
  subst h
  simp[cX]
 | a :: r,i+1,c,h=>by
  have b:=mR r i c (by simpa using h)
  have e:cX (a :: r)=.int .i64 a.1 :: .int .i64 a.2.1 :: .int .i64 a.2.2 :: cX r:=rfl
  rw[e]
  refine⟨?_,?_,?_⟩
  ·rw[show (i+1)*3=i*3+1+1+1 by omega];simpa using b.1
  ·rw[show (i+1)*3+1=i*3+1+1+1+1 by omega];simpa using b.2.1
  ·rw[show (i+1)*3+2=i*3+2+1+1+1 by omega];simpa using b.2.2
theorem DO {c:aB} (h:aW c=0):wf c.1/\wf c.2.1/\wf c.2.2:=by
 obtain⟨a,b,d⟩:=eG h
 have:=jo c.1
 exact⟨WalkArith.wf_i64 (by omega),WalkArith.wf_i64 (by omega),WalkArith.wf_i64 (by omega)⟩
theorem mA {v:Int} (h:bi v=true):wf v:=by
 unfold bi at h
 simp at h
 exact WalkArith.wf_i64 (by omega)
theorem yd {B b:Nat} {w:World} {cv:Value} {cs:List aB} (h:w.ownsRow b 145 3 cv cs.length (cX cs)) (d:∀ c∈cs,aW c=0) (u:w.heap.size<=B):bB B w cv cs:=by
 obtain⟨a,e,rfl,j,k,l⟩:=ax h
 refine⟨a,e,rfl,j,k,λi c f=>?_⟩
 have v:i<cs.length:=(List.getElem?_eq_some_iff.1 f).1
 obtain⟨g,rfl,m,n⟩:=l (by omega)
 obtain⟨o,p,q⟩:=mR cs i c f
 obtain⟨r,s,t⟩:=DO (d c (List.mem_of_getElem? f))
 refine⟨g,0,rfl,by omega,?_,?_,?_,r,s,t⟩
 ·rw[Nat.zero_add];exact aL h _ _ o
 ·rw[Nat.zero_add];exact aL h _ _ p
 ·rw[Nat.zero_add];exact aL h _ _ q
theorem bN.get {B:Nat} {w:World}:∀ (a:List ai) (xs:List Value) (i:Nat) (r:ai),bN B w a xs->a[i]?=some r->∃ b,xs[i*2]?=some b/\xs[i*2+1]?=some (.int .i64 r.2)/\w.ownsRow B 145 3 b r.1.length (cX r.1)
 | [],_,_,_,_,h=>by simp at h
 | j :: a,xs,0,r,h,c=>by
  obtain⟨b,e,rfl,f,g⟩:=h
  simp at c
  subst c
  exact⟨b,rfl,rfl,f⟩
 | j :: a,xs,i+1,r,h,c=>by
  obtain⟨b,e,rfl,f,g⟩:=h
  obtain⟨d,k,l,m⟩:=bN.get a e i r g (by simpa using c)
  refine⟨d,?_,?_,m⟩
  ·rw[show (i+1)*2=i*2+1+1 by omega];simpa using k
  ·rw[show (i+1)*2+1=i*2+1+1+1 by omega];simpa using l
theorem yi {B b:Nat} {w:World} {rv:Value} {c:List ai} {xs:List Value} (h:w.ownsRow b 142 2 rv c.length xs) (j:bN b w c xs) (d:∀ r∈c,aR r=0) (k:w.heap.size<=B):be B w rv c:=by
 obtain⟨a,e,rfl,l,m,n⟩:=ax h
 refine⟨a,e,rfl,l,m,λi r f=>?_⟩
 have y:i<c.length:=(List.getElem?_eq_some_iff.1 f).1
 obtain⟨g,rfl,o,p⟩:=n (by omega)
 obtain⟨q,s,t,u⟩:=bN.get c xs i r j f
 obtain⟨_,v,x⟩:=db (d r (List.mem_of_getElem? f))
 refine⟨g,0,rfl,by omega,q,?_,?_,mA v,yd u (eM x) k⟩
 ·rw[Nat.zero_add];exact aL h _ _ s
 ·rw[Nat.zero_add];exact aL h _ _ t
theorem BV {B a:Nat} {w:World} {rv:Value} {b:List ai} {d:Int} {xs:List Value} (h:w.ownsRow a 142 2 rv b.length xs) (e:bN a w b xs) (c:ae (b,d)=0) (f:w.heap.size<=B):bG B w (.agg #[rv,.int .i64 d]) (b,d):=by
 obtain⟨_,g,i⟩:=cu c
 exact⟨rv,rfl,mA g,yi h e (bZ i) f⟩
def aN (L:Nat) (w:World) (b:Value) (p:ap):Prop:=∀ a:World,(∀ g,L<=g->g<w.heap.size->a.heap[g]?=w.heap[g]?)->w.heap.size<=a.heap.size->bG a.heap.size a b p
theorem aN.at {L:Nat} {w:World} {a:Value} {p:ap} (h:aN L w a p):bG w.heap.size w a p:=h w (λ_ _ _=>rfl) (Nat.le_refl _)
theorem aN.keep {L a:Nat} {w w':World} {b:Value} {p:ap} (h:aN L w b p) (j:a<=L) (c:∀ g,L<=g->g<w.heap.size->w'.heap[g]?=w.heap[g]?) (k:w.heap.size<=w'.heap.size):aN a w' b p:=
 λd e l=>h d (λg f i=>(e g (by omega) (by omega)).trans (c g f i)) (by omega)
theorem aN.later {L a:Nat} {w w':World} {b:Value} {p:ap} (h:aN L w b p) (d:a<=L) (c:Below w.heap.size w w'):aN a w' b p:=h.keep d (λg _ e=>c.block g e) c.size
theorem aN.put {L:Nat} {w:World} {a:Value} {p:ap} {b o:Nat} {u:Value} (h:aN L w a p) (c:b<L\/w.heap.size<=b):aN L (w.setCell ⟨b,o,none⟩ u) a p:=h.keep (Nat.le_refl _) (λg d e=>Below.heap_setCell _ _ _ _ (by show g≠b;omega)) (by simp)
end Go.Proofs.YtnpdhopjpjickaaGreatDoor
end
section
set_option linter.all false
namespace Go.Proofs.YtnpdhopjpjickaaGreatDoor
open Go.RowKit Go.Maps
theorem E3 (d:Nat) (f b v c a e:Int) (w:World):(Op.equalIn (d+3) 145 (.agg #[.int .i64 f,.int .i64 b,.int .i64 v]) (.agg #[.int .i64 c,.int .i64 a,.int .i64 e])).run Tryz.prog w=.ok (decide (((f,b,v):aB)=(c,a,e))) w:=by
 have l:=Tryz.underlying3
 have m:=Tryz.isAgg3
 have n:=Tryz.sizeOf3
 have g:Tryz.prog.underlying 145=some (.struct (Tryz.prog.fieldsOf 145)):=by kernel_rfl
 have h:Tryz.prog.stoodInHeld 145=false:=by kernel_rfl
 rw[run_equalIn_agg w (d+2) 145 _ _ g h]
 simp only[Program.fieldsOf,Tryz.underlying145]
 go_simp
 by_cases i:f=c<;>by_cases j:b=a<;>by_cases k:v=e<;>simp[i,j,k]
theorem De (f b v c a d:Int) (w:World):(binOp .neq 145 (.agg #[.int .i64 f,.int .i64 b,.int .i64 v]) (.agg #[.int .i64 c,.int .i64 a,.int .i64 d])).run Tryz.prog w=.ok (.bool (!decide (((f,b,v):aB)=(c,a,d)))) w:=by
 rw[run_neq_struct,show (10000:Nat)=9997+3 from rfl,E3]
 rfl
theorem Bi (a:BinOp) (x y:Operand) (xs ys:Array Value) (w:World):(eqGuard a 145 x y (.agg xs) (.agg ys)).run Tryz.prog w=.ok () w:=run_eqGuard_agg _ _ _ _ _ _ _ (by kernel_rfl)
theorem li {d:Array Oper} {C:World->Prop} {Q:Act->Prop} {a:Act} {o:Oper} {c:List Oper} (x y:Operand) (t:TypeId) (kf:o.op=.binOp .neq 145 x y t) (k:Region.wanted o (yielded d a.tmps)=true)
  (f g v i b j:Int) (l:a.eval x=.agg #[.int .i64 f,.int .i64 g,.int .i64 v]) (m:a.eval y=.agg #[.int .i64 i,.int .i64 b,.int .i64 j])
  (q:Bool) (n:(!decide (((f,g,v):aB)=(i,b,j)))=q) (h:wpQuiet Tryz.prog d C Q c (a.put o.dst (.bool q))):wpQuiet Tryz.prog d C Q (o :: c) a:=by
 subst n
 refine BigFrame.wpQuiet_want k λK p=>⟨_,λw _=>?_,p _ h⟩
 unfold Oper.quietAt execOp
 rw[kf]
 simp only[l,m]
 have e:((do eqGuard .neq 145 x y (.agg #[.int .i64 f,.int .i64 g,.int .i64 v]) (.agg #[.int .i64 i,.int .i64 b,.int .i64 j]);binOp .neq 145 (.agg #[.int .i64 f,.int .i64 g,.int .i64 v]) (.agg #[.int .i64 i,.int .i64 b,.int .i64 j])):Sem Value).run Tryz.prog w=.ok (.bool (!decide (((f,g,v):aB)=(i,b,j)))) w:=by
  simp only[Sem.run_bind,Bi,De,Result.andThen]
 simp only[Sem.run_bind,e,Result.andThen]
 exact⟨rfl,rfl⟩
set_option maxHeartbeats 1000000 in
theorem rG (B:Nat) (cv R:Value) (cs p:List aB) (w:World) (hc:bB B w cv cs) (F:bB B w R p) (hB:B<=w.heap.size):
  Calls Tryz.prog 93 #[cv,R] w λe w'=>e=.returned (.bool (decide (cs=p)))/\Below w.heap.size w w':=by
 obtain⟨a,a7,rfl,a8,a9,G⟩:=hc
 obtain⟨a2,S,rfl,I,T,J⟩:=F
 have K:=hid G
 have L:=hid J
 clear G J
 by_cases q:cs.length=p.length
 ·generalize hn:cs.length=n at*
  have U:p.length=n:=q.symm
  clear q
  rw[U] at I
  simp only[U]
  have aa:n<=9223372036854775807:=by have:=ag;omega
  go_enter Tryz.func93,Tryz.ntmps93
  go_wp2
  go_loopw [13] (λi wr=>∃ k:Nat,k<=n/\i=.int .i64 k/\Hid (∀ i,i<k->cs[i]?=p[i]?)/\Below w.heap.size w wr) (λi _=>n-(intOf i).toNat)
  case atStart=>exact⟨0,by omega,rfl,λi h=>absurd h (by omega),Below.refl _ _⟩
  case round=>
   obtain⟨k,hk,rfl,H,g⟩:=hrel
   have i0:(0:Int)<=(k:Int):=by omega
   by_cases ac:k<n
   ·have i1:(k:Int)<(n:Int):=by omega
    obtain⟨c,u⟩:∃ c,cs[k]?=some c:=⟨cs[k]'(by omega),by simp⟩
    obtain⟨d,y⟩:∃ d,p[k]?=some d:=⟨p[k]'(by omega),by simp⟩
    obtain⟨b,o,rfl,ad,M⟩:=K.out k c u
    obtain⟨N,O,rfl,V,r⟩:=L.out k d y
    have s:=hid u
    have t:=hid y
    clear u y
    obtain⟨W,X,Y,w0,w1,w2⟩:=M.later g (by omega)
    obtain⟨Z,d1,d2,_,_,_⟩:=r.later g (by omega)
    obtain⟨f,C,v⟩:=c
    obtain⟨D,j,E⟩:=d
    simp only[] at W X Y Z d1 d2
    clear M r
    go_wp2
    have ak:=g.size
    have q:=aw.ne wr
    have ao:∀ x:aw wr,x.1.cell? ⟨b,o+k*3,none⟩=some (.int .i64 f):=λx=>x.cell W (by omega)
    have av:∀ x:aw wr,x.1.cell? ⟨b,o+k*3+1,none⟩=some (.int .i64 C):=λx=>x.cell X (by omega)
    have b0:∀ x:aw wr,x.1.cell? ⟨b,o+k*3+2,none⟩=some (.int .i64 v):=λx=>x.cell Y (by omega)
    have b1:∀ x:aw wr,x.1.cell? ⟨N,O+k*3,none⟩=some (.int .i64 D):=λx=>x.cell Z (by omega)
    have b3:∀ x:aw wr,x.1.cell? ⟨N,O+k*3+1,none⟩=some (.int .i64 j):=λx=>x.cell d1 (by omega)
    have b4:∀ x:aw wr,x.1.cell? ⟨N,O+k*3+2,none⟩=some (.int .i64 E):=λx=>x.cell d2 (by omega)
    by_cases l:((f,C,v):aB)=(D,j,E)
    ·have z:=hid l
     have F:Hid ((!decide (((f,C,v):aB)=(D,j,E)))=false):=by unfold Hid;simp[l]
     clear l
     refine bn (by kernel_rfl) (by kernel_rfl) ?_
     repeat (go_big_quiet_step (fail))
     refine li _ _ _ rfl rfl f C v D j E rfl rfl _ F.out ?_
     refine wpQuiet_nil ?_
     rintro wx ⟨⟨_,P⟩,rfl⟩
     have A:=Below.thenOf g P g.size
     go_wp2
     refine⟨⟨k+1,by omega,by go_num,λi hi=>?_,A⟩,by simp[intOf];omega⟩
     by_cases Q:i=k
     ·subst Q;rw[s.out,t.out,z.out]
     ·exact H.out i (by omega)
    ·have z:=hid l
     have F:Hid ((!decide (((f,C,v):aB)=(D,j,E)))=true):=by unfold Hid;rw[decide_eq_false l];rfl
     clear l
     refine bn (by kernel_rfl) (by kernel_rfl) ?_
     repeat (go_big_quiet_step (fail))
     refine li _ _ _ rfl rfl f C v D j E rfl rfl _ F.out ?_
     refine wpQuiet_nil ?_
     rintro wx ⟨⟨_,P⟩,rfl⟩
     have A:=Below.thenOf g P g.size
     go_wp2
     go_ret
     refine⟨?_,A⟩
     have:cs≠p:=by
      intro h
      have h1:=s.out
      rw[h,t.out] at h1
      exact z.out (Option.some.inj h1).symm
     simp[this]
   ·go_wp2
    go_ret
    refine⟨?_,g⟩
    have:cs=p:=by
     refine List.ext_getElem? λi=>?_
     by_cases hi:i<k
     ·exact H.out i hi
     ·rw[List.getElem?_eq_none (by omega),List.getElem?_eq_none (by omega)]
    simp[this]
 ·have b6:((cs.length:Int) != (p.length:Int))=true:=by simp;omega
  have hf:Hid (decide (cs=p)=false):=by unfold Hid;simp;intro h;rw[h] at q;exact q rfl
  generalize cs.length=n at*
  generalize p.length=m at*
  go_enter Tryz.func93,Tryz.ntmps93
  go_wp2
  go_ret
  exact⟨by rw[hf.out];rfl,Below.refl _ _⟩
end Go.Proofs.YtnpdhopjpjickaaGreatDoor
end
section
set_option linter.all false
set_option maxRecDepth 100000
namespace Go.Proofs.YtnpdhopjpjickaaGreatDoor
open Go.RowKit Go.Maps
def vC:Array Value:=#[.string ⟨#[107,105,108,108]⟩,.string ⟨#[116,114,97,112]⟩,.string ⟨#[102,97,105,108]⟩,.string ⟨#[108,111,103]⟩,.string ⟨#[97,108,108,111,119]⟩]
def fC:Array Value:=#[.string ⟨#[110,114]⟩,.string ⟨#[107,105,110,100]⟩,.string ⟨#[97]⟩,.string ⟨#[98]⟩,.string ⟨#[99]⟩]
set_option maxHeartbeats 1000000 in
theorem i7 (w:World):Calls Tryz.prog 196 #[] w λe a=>e=.returned (.slice (some ⟨w.heap.size,0,none⟩) 5 5)/\a=w.alloc (.cells vC 9):=by
 go_enter Tryz.func196,Tryz.ntmps196
 go_wp2
 go_ret
 exact⟨rfl,rfl⟩
set_option maxHeartbeats 1000000 in
theorem lG (w:World):Calls Tryz.prog 222 #[] w λe a=>e=.returned (.slice (some ⟨w.heap.size,0,none⟩) 5 5)/\a=w.alloc (.cells fC 9):=by
 go_enter Tryz.func222,Tryz.ntmps222
 go_wp2
 go_ret
 exact⟨rfl,rfl⟩
def ew (b:Nat) (cs:Array Value) (w:World):Prop:=∀ j u,cs[j]?=some u->w.cell? ⟨b,j,none⟩=some u
theorem ew.made (w:World) (cs:Array Value) (T:TypeId):ew w.heap.size cs (w.alloc (.cells cs T)):=by
 intro j u h
 rw[World.cell?_alloc_at _ _ _ _ rfl]
 exact h
theorem ew.later {b:Nat} {cs:Array Value} {w w':World} (h:ew b cs w) (c:Below w.heap.size w w') (a:b<w.heap.size):ew b cs w':=λj u d=>(c.cell (p:=⟨b,j,none⟩) a).trans (h j u d)
theorem qp (a:List Bs) (cs:Array Value) (c:cs=(a.map λn=>Value.string (eP n)).toArray) (d:a.length=5) (b:Nat) (x:ByteArray) (w:World) (h:ew b cs w):
  Calls Tryz.prog 211 #[.slice (some ⟨b,0,none⟩) 5 5,.string x] w λe g=>e=.returned (.int .i64 (bI a x.data.toList))/\g=w:=by
 have:=Tryz.slices_Index_string b 0 5 5 (a.map eP) x w (by simp[d]) (by decide) (λj f=>by
  rw[Nat.zero_add]
  refine h j _ ?_
  rw[c]
  simp at f
  simp[List.getD,f])
 rw[List.take_of_length_le (by simp[d]),pP] at this
 exact this
set_option maxHeartbeats 1000000 in
theorem kZ (x:ByteArray) (w:World):
  Calls Tryz.prog 229 #[.string x] w λe b=>e=.returned (.tuple #[.int .i64 (bI vN x.data.toList),.bool (decide (0<=bI vN x.data.toList))])/\Below w.heap.size w b:=by
 have c:Hid (Calls Tryz.prog 211 #[.slice (some ⟨w.heap.size,0,none⟩) 5 5,.string x] (w.alloc (.cells vC 9)) λe a=>e=.returned (.int .i64 (bI vN x.data.toList))/\a=w.alloc (.cells vC 9)):=qp vN vC rfl rfl w.heap.size x _ (ew.made w vC 9)
 have d:Hid (Below w.heap.size w (w.alloc (.cells vC 9))):=(Below.refl _ _).alloc (Nat.le_refl _) _
 generalize bI vN x.data.toList=f at*
 go_enter Tryz.func229,Tryz.ntmps229
 go_wp2_with fail
 go_at_call 196
 refine Calls.mono (i7 _) ?_
 rintro e g ⟨rfl,rfl⟩
 generalize h:w.alloc (.cells vC 9)=W at*
 go_wp2_with fail
 go_at_call 211
 refine Calls.mono c.out ?_
 rintro e i ⟨rfl,rfl⟩
 go_wp2_with fail
 go_ret2
 exact⟨rfl,d.out⟩
def zQ (c:Option aB):Value:=match c with
 | some c=>.agg #[.int .i64 c.1,.int .i64 c.2.1,.int .i64 c.2.2]
 | none=>.agg #[.int .i64 0,.int .i64 0,.int .i64 0]
def EL (W:World) (a:Nat->Value->Prop) (w:World):Prop:=
 Below W.heap.size W w/\∀ v,a 0 v->∃ b:Nat,v=.slice (some ⟨b,0,none⟩) 5 5/\b<w.heap.size/\ew b fC w
def DZ (a:Int) (k:Nat) (v:Value):Prop:=if k=0 then ∃ b:Nat,v=.slice (some ⟨b,0,none⟩) 5 5 else v=.int .i64 a
theorem Bk (a:Int) (k:Nat):∃ v,DZ a k v:=by
 unfold DZ
 split
 ·exact⟨_,0,rfl⟩
 ·exact⟨_,rfl⟩
theorem ey {W:World} {b:Nat} {a c d:Value} {T:TypeId} (h:W.heap[b]?=some (.cells #[a,c,d] T (0,0))):
  (W.cell? ⟨b,0,none⟩=some a/\W.cell? ⟨b,1,none⟩=some c/\W.cell? ⟨b,2,none⟩=some d)/\W.frozen? ⟨b,0,none⟩=false/\W.frozen? ⟨b,1,none⟩=false/\W.frozen? ⟨b,2,none⟩=false:=by
 simp[World.cell?,World.frozen?,h]
theorem mK {W:World} {b:Nat} {a c d u0 u1 u2:Value} {T:TypeId} (h:W.heap[b]?=some (.cells #[a,c,d] T (0,0))):
  (((W.setCell ⟨b,0,none⟩ u0).setCell ⟨b,1,none⟩ u1).setCell ⟨b,2,none⟩ u2).heap[b]?=some (.cells #[u0,u1,u2] T (0,0)):=
 an (o:=2) (u:=u2) (an (o:=1) (u:=u1) (an (o:=0) (u:=u0) h))
theorem ju {B b:Nat} {a W:World} (h:Below B a W) (c:B<=b) (u0 u1 u2:Value):Below B a (((W.setCell ⟨b,0,none⟩ u0).setCell ⟨b,1,none⟩ u1).setCell ⟨b,2,none⟩ u2):=
 ((h.setCell (p:=⟨b,0,none⟩) c _).setCell (p:=⟨b,1,none⟩) c _).setCell (p:=⟨b,2,none⟩) c _
theorem lT (c:Bs):∀ l:Bs,Lib.indexAny l c<l.length
 | []=>by simp[Lib.indexAny]
 | b :: l=>by
  have:=lT c l
  unfold Lib.indexAny
  rw[List.length_cons]
  split
  ·omega
  ·split<;>omega
theorem kp (c:UInt8):∀ l:Bs,Lib.indexByte l c<l.length
 | []=>by simp[Lib.indexByte]
 | b :: l=>by
  have:=kp c l
  unfold Lib.indexByte
  rw[List.length_cons]
  split
  ·omega
  ·split<;>omega
theorem uG (s:ByteArray) (i:Nat):(s.extract i s.size).data.toList=s.data.toList.drop i:=by
 rw[ByteArray.data_extract,Array.toList_extract]
 show (s.data.toList.drop i).take (s.size-i)=_
 exact List.take_of_length_le (by rw[List.length_drop,<-Lib.size_eq];exact Nat.le_refl _)
theorem CA {l:Bs} {n:Int} (h:cS l=some n):wf n:=by
 unfold cS at h
 split at h
 ·rename_i v a
  obtain⟨b,c⟩:=rm a
  split at h
  ·cases h
   unfold wf
   exact WalkArith.wf_i64 (by omega)
  ·cases h
 ·cases h
theorem lK {n:Int} (h : -9223372036854775808<=n/\n<=9223372036854775807):wf n:=by
 unfold wf
 exact WalkArith.wf_i64 (by omega)
theorem Ar {l:Bs} {c:aB} (h:dg l=some c):wf c.1/\wf c.2.1/\wf c.2.2:=by
 unfold dg at h
 split at h
 ·cases h
 ·split at h
  ·cases h
  ·rename_i n a
   split at h
   ·cases h
   ·cases h
    have b:=mJ fN (l.take (Lib.indexAny l fk).toNat)
    have g:=Lib.indexByte_ge fk (l.getD (Lib.indexAny l fk).toNat 0)
    have d:=kp (l.getD (Lib.indexAny l fk).toNat 0) fk
    have e:fN.length=5:=rfl
    have f:fk.length=4:=rfl
    rw[e] at b
    rw[f] at d
    exact⟨lK (by simp only[];omega),lK (by simp only[];omega),CA a⟩
set_option maxHeartbeats 4000000 in
theorem uB (s:ByteArray) (hs:s.size<=4294967280) (w:World) (he:dX w):
  Calls Tryz.prog 238 #[.string s] w λe a=>e=.returned (.tuple #[zQ (dg s.data.toList),.bool (dg s.data.toList).isSome])/\Below w.heap.size w a:=by
 have O:Hid (∀ a,Calls Tryz.prog 257 #[.string s,.string ⟨#[61,33,60,62]⟩] a λe f=>e=.returned (.int .i64 (Lib.indexAny s.data.toList fk))/\Below a.heap.size a f):=λa=>uy s (by omega) a
 have D:=Lib.indexAny_ge fk s.data.toList
 have l:=lT fk s.data.toList
 rw[<-Lib.size_eq] at l
 have P:∀ X,Below w.heap.size w (w.alloc X):=λX=>(Below.refl _ _).alloc (Nat.le_refl _) _
 have Q:Hid (∀ a T,Below (w.heap.size+1) (w.alloc (.cells #[.int .i64 0,.int .i64 0,.int .i64 0] T)) a->a.heap[w.heap.size]?=some (.cells #[.int .i64 0,.int .i64 0,.int .i64 0] T (0,0))/\Below w.heap.size w a):=λa T h=>⟨(h.block w.heap.size (by omega)).trans (MapKept.heap_alloc w _).1,(P _).trans (h.mono (by omega))⟩
 by_cases o:Lib.indexAny s.data.toList fk<0
 ·have M:Hid (dg s.data.toList=none):=by unfold Hid dg;rw[if_pos o]
  generalize Lib.indexAny s.data.toList fk=ix at*
  go_enter Tryz.func238,Tryz.ntmps238
  go_wp2_with fail
  go_at_call 257
  refine Calls.mono (O.out _) ?_
  rintro e C ⟨rfl,p⟩
  simp only[World.size_alloc] at p
  obtain⟨r,d⟩:=Q.out _ _ p
  obtain⟨⟨c0,c1,c2⟩,f0,f1,f2⟩:=ey r
  have g:Hid _:=r
  clear r D l
  go_wp2_with fail
  obtain⟨⟨R,S,U⟩,_⟩:=ey (mK (u0:=.int .i64 0) (u1:=.int .i64 0) (u2:=.int .i64 0) g.out)
  refine bodyPost_ret (v:=.tuple #[.agg #[.int .i64 0,.int .i64 0,.int .i64 0],.bool false]) ?_ rfl ⟨by rw[M.out];rfl,ju d (Nat.le_refl _) _ _ _⟩
  rw[results_cell_tmp rfl]
  go_simp
 ·obtain⟨i,V⟩:∃ i:Nat,Lib.indexAny s.data.toList fk=i:=⟨(Lib.indexAny s.data.toList fk).toNat,by omega⟩
  have t:i<s.size:=by omega
  obtain⟨x,W⟩:∃ x:UInt8,s[i]'t=x:=⟨_,rfl⟩
  have E:s.data.toList.getD i 0=x:=by
   rw[List.getD_eq_getElem?_getD,Lib.data_getElem? s i t,W]
   rfl
  have b3:∀ w,(Instr.index 9 (.string s) (.int .i64 i)).run Tryz.prog w=.ok (.int .u8 x.toNat) w:=λw=>by
   have:=gt s i t w
   rw[W] at this
   exact this
  have M:Hid (dg s.data.toList=match cS (s.data.toList.drop (i+1)) with
   | none=>none
   | some n=>if bI fN (s.data.toList.take i)<0 then none else some (bI fN (s.data.toList.take i),1+Lib.indexByte fk x,n)):=by
   unfold Hid dg
   rw[V]
   simp only[Int.toNat_natCast,E]
   rw[if_neg (by omega)]
   rfl
  rw[V] at O
  have HN:Hid (∀ a,Below w.heap.size w a->Calls Tryz.prog 184 #[.string (s.extract (i+1) s.size)] a λe f=>∃ n ok,e=.returned (.tuple #[.int .i64 n,.bool ok])/\(cS (s.data.toList.drop (i+1))=if ok=true then some n else none)/\wf n/\Below a.heap.size a f):=λa p=>by
   have:=gX (s.extract (i+1) s.size) (by rw[ByteArray.size_extract];omega) a (he.later p)
   rw[uG] at this
   exact this
  have HX:Hid (∀ b a,ew b fC a->Calls Tryz.prog 211 #[.slice (some ⟨b,0,none⟩) 5 5,.string (s.extract 0 i)] a λe f=>e=.returned (.int .i64 (bI fN (s.data.toList.take i)))/\f=a):=λb a Y=>by
   have:=qp fN fC rfl rfl b (s.extract 0 i) a Y
   rw[Lib.extract_from_zero] at this
   exact this
  have HY:Hid (∀ a,Calls Tryz.prog 258 #[.string ⟨#[61,33,60,62]⟩,.int .u8 x.toNat] a λe f=>e=.returned (.int .i64 (Lib.indexByte fk x))/\f=a):=λa=>by
   have:=Tryz.strings_IndexByte i8 x.toNat a
   rw[show ((x.toNat:Int)).toNat.toUInt8=x by simp] at this
   exact this
  have b7:=Lib.indexByte_ge fk x
  have b8:Lib.indexByte fk x<4:=kp x fk
  have b9:IntKind.i64.wrap (1+Lib.indexByte fk x)=1+Lib.indexByte fk x:=IntWalk.i64_in _ (by omega)
  have ba:IntKind.i64.wrap ((i:Int)+1)=(i:Int)+1:=IntWalk.i64_in _ (by omega)
  have F:∀ w,(Instr.sliceAt 9 (.string s) none (some (.int .i64 i)) none).run Tryz.prog w=.ok (.string (s.extract 0 i)) w:=λw=>by
   have:(i:Int)<=(s.size:Int):=by omega
   have h2:i<=s.size:=by omega
   simp[go_sem,this,h2,Tryz.underlying9]
  have a7:∀ w,(Instr.sliceAt 9 (.string s) (some (.int .i64 ((i:Int)+1))) none none).run Tryz.prog w=.ok (.string (s.extract (i+1) s.size)) w:=λw=>mF s (i+1) (by omega) w
  clear W E D o V
  generalize bI fN (s.data.toList.take i)=j at*
  generalize Lib.indexByte fk x=Z at*
  generalize m:cS (s.data.toList.drop (i+1))=nd at*
  clear m
  have bc:¬((i:Int)<0):=by omega
  go_enter Tryz.func238,Tryz.ntmps238
  go_wp2_with fail
  go_at_call 257
  refine Calls.mono (O.out _) ?_
  rintro e C ⟨rfl,p⟩
  simp only[World.size_alloc] at p
  have G:w.heap.size+1<=C.heap.size:=by have:=p.size;simpa using this
  go_wp2_with fail
  have H:Hid (∀ fs a,EL C fs a->∃ z:aw C,a=z.1):=λfs a h=>⟨⟨a,h.1⟩,rfl⟩
  have a0:=aw.ne C
  refine bh [_,_,_,_,_] _ rfl (λk=>k==0||k==4) (EL C) (DZ j) (Bk j) (by kernel_rfl) (by kernel_rfl) ⟨(Below.refl _ _).drew,λ_ h=>h.elim⟩ ?_
  refine bu 222 #[] rfl rfl (λa=>by kernel_rfl) (λgs a u q a1=>?_) (λv0 a2=>?_)
  ·refine (lG a).mono ?_
   rintro e w2 ⟨rfl,rfl⟩
   have d:Below a.heap.size a (a.alloc (.cells fC 9)):=(Below.refl _ _).alloc (Nat.le_refl _) _
   refine⟨_,rfl,⟨_,rfl⟩,Below.thenOf u.1 d u.1.size,λv y=>?_⟩
   rcases y with y | ⟨_,rfl⟩
   ·obtain⟨b,rfl,l,Y⟩:=u.2 v y
    exact⟨b,rfl,by simp;omega,Y.later d l⟩
   ·exact⟨_,rfl,by simp,ew.made a fC 9⟩
  simp only[Act.put,List.setIfInBounds_toArray,List.set_cons_succ,List.set_cons_zero]
  obtain⟨b,rfl⟩:∃ b:Nat,v0=.slice (some ⟨b,0,none⟩) 5 5:=a2
  iterate 2 (refine aH H.out rfl rfl ?_;go_big_quiet_step (fail);refine wpQuiet_nil ?_)
  refine iR (.string (s.extract 0 i)) rfl rfl (λa=>f9 (F a)) ?_
  simp only[Act.put,List.setIfInBounds_toArray,List.set_cons_succ,List.set_cons_zero]
  refine bu 211 #[.slice (some ⟨b,0,none⟩) 5 5,.string (s.extract 0 i)] rfl rfl (λa=>by kernel_rfl) (λgs a u q a1=>?_) (λv4 a3=>?_)
  ·obtain⟨b',e',ac,a4⟩:=u.2 _ (q 0 _ (.inr ⟨rfl,rfl⟩) (zQ0 (by kernel_rfl)))
   simp at e'
   subst e'
   refine (HX.out b a a4).mono ?_
   rintro e w2 ⟨rfl,rfl⟩
   refine⟨_,rfl,rfl,u.1,λv y=>?_⟩
   rcases y with y | ⟨h,_⟩
   ·exact u.2 v y
   ·cases h
  simp only[Act.put,List.setIfInBounds_toArray,List.set_cons_succ,List.set_cons_zero]
  obtain rfl:v4=.int .i64 j:=a3
  refine dF ?_
  intro w2 A
  have I:=Below.thenOf p A.1 G
  have J:=Nat.le_trans G A.1.size
  clear A a0 H
  go_wp2_with fail
  go_at_call 184
  refine Calls.mono (HN.out _ (Q.out _ _ I).2) ?_
  rintro e w3 ⟨n,ok,rfl,m,a5,B⟩
  have K:=Below.thenOf I B J
  have bk:=Nat.le_trans J B.size
  obtain⟨r,d⟩:=Q.out _ _ K
  obtain⟨⟨c0,c1,c2⟩,f0,f1,f2⟩:=ey r
  have g:Hid _:=r
  have L:Hid _:=m
  clear r B m a5
  by_cases c:j<0\/ok=false
  ·have N:Hid (dg s.data.toList=none):=by
    unfold Hid
    rw[M.out,L.out]
    cases ok with
    | false=>rfl
    | true=>
     have:j<0:=by simpa using c
     simp[this]
   by_cases hf:j<0
   ·go_wp2_with fail
    obtain⟨⟨R,S,U⟩,_⟩:=ey (mK (u0:=.int .i64 0) (u1:=.int .i64 0) (u2:=.int .i64 0) g.out)
    refine bodyPost_ret (v:=.tuple #[.agg #[.int .i64 0,.int .i64 0,.int .i64 0],.bool false]) ?_ rfl ⟨by rw[N.out];rfl,ju d (Nat.le_refl _) _ _ _⟩
    rw[results_cell_tmp rfl]
    go_simp
   ·obtain rfl:ok=false:=by simpa [hf] using c
    clear c
    go_wp2_with fail
    obtain⟨⟨R,S,U⟩,_⟩:=ey (mK (u0:=.int .i64 0) (u1:=.int .i64 0) (u2:=.int .i64 0) g.out)
    refine bodyPost_ret (v:=.tuple #[.agg #[.int .i64 0,.int .i64 0,.int .i64 0],.bool false]) ?_ rfl ⟨by rw[N.out];rfl,ju d (Nat.le_refl _) _ _ _⟩
    rw[results_cell_tmp rfl]
    go_simp
  ·have hf:¬j<0:=λh=>c (.inl h)
   obtain rfl:ok=true:=by cases ok with | true=>rfl | false=>exact absurd (.inr rfl) c
   have N:Hid (dg s.data.toList=some (j,1+Z,n)):=by
    unfold Hid
    rw[M.out,L.out]
    simp[hf]
   clear c
   go_wp2_with fail
   go_at_call 258
   refine Calls.mono (HY.out _) ?_
   rintro e w4 ⟨rfl,rfl⟩
   go_wp2_with fail
   obtain⟨⟨R,S,U⟩,_⟩:=ey (mK (u0:=.int .i64 j) (u1:=.int .i64 (1+Z)) (u2:=.int .i64 n) g.out)
   refine bodyPost_ret (v:=.tuple #[.agg #[.int .i64 j,.int .i64 (1+Z),.int .i64 n],.bool true]) ?_ rfl ⟨by rw[N.out];rfl,ju d (Nat.le_refl _) _ _ _⟩
   rw[results_cell_tmp rfl]
   go_simp
end Go.Proofs.YtnpdhopjpjickaaGreatDoor
end
section
set_option linter.all false
set_option maxRecDepth 100000
namespace Go.Proofs.YtnpdhopjpjickaaGreatDoor
open Go.RowKit Go.Maps
theorem nZ (c:UInt8):∀ (l:Bs) (p:Bs),p∈bU c l->p.length<=l.length
 | [],p,h=>by simp[bU] at h;subst h;simp
 | b :: l,p,h=>by
  have a:=nZ c l
  unfold bU at h
  split at h
  ·simp at h
   rcases h with rfl | h
   ·simp
   ·have:=a p h;simp;omega
  ·split at h
   ·simp at h;subst h;simp
   ·rename_i d f e
    rw[e] at a
    simp at h
    rcases h with rfl | h
    ·have:=a d (by simp);simp;omega
    ·have:=a p (by simp[h]);simp;omega
theorem ui (c:UInt8) (s:ByteArray) (i:s.size<=4294967280) (w:World) (b:oE w):∃ a:List ByteArray,a.map (·.data.toList)=bU c s.data.toList/\
  Calls Tryz.prog 96 #[.string s,.string ⟨#[c]⟩] w λe d=>e=.returned (.slice (some ⟨w.heap.size,0,none⟩) a.length a.length)/\d=w.alloc (.cells (a.map Value.string).toArray 9):=by
 obtain⟨f,g⟩:=b
 have h:=Tryz.strings_Split s ⟨#[c]⟩ f w (by omega) g (Nat.le_refl 1)
 refine⟨Lib.splitB ⟨#[c]⟩ 0 (Lib.countB s ⟨#[c]⟩) s,?_,?_⟩
 ·rw[Lib.splitB_data,<-iM]
  rfl
 ·rw[Lib.splitB_all ⟨#[c]⟩ (Nat.le_refl 1) 0 _ s rfl]
  exact h
def cU (L:Nat) (w:World) (v:Value) (cs:List aB):Prop:=
 ∃ a d,v=.slice a cs.length d/\cs.length<=d/\d<=maxLen/\∀ i c,cs[i]?=some c->∃ b o,a=some ⟨b,o,none⟩/\L<=b/\b<w.heap.size/\gl w b (o+i*3) c
theorem cU.nil (L:Nat) (w:World):cU L w (.slice none 0 0) []:=⟨none,0,rfl,Nat.le_refl _,Nat.zero_le _,λi c h=>by simp at h⟩
theorem bC {w w':World} {b:Nat} (h:w'.heap[b]?=w.heap[b]?) (o:Nat):w'.cell? ⟨b,o,none⟩=w.cell? ⟨b,o,none⟩:=by
 unfold World.cell?
 rw[h]
theorem cU.keep {L:Nat} {w w':World} {v:Value} {cs:List aB} (h:cU L w v cs) (l:∀ g,L<=g->g<w.heap.size->w'.heap[g]?=w.heap[g]?) (m:w.heap.size<=w'.heap.size):cU L w' v cs:=by
 obtain⟨a,d,n,p,q,r⟩:=h
 refine⟨a,d,n,p,q,λi c s=>?_⟩
 obtain⟨b,o,e,j,t,k⟩:=r i c s
 refine⟨b,o,e,j,by omega,?_⟩
 have f:=l b j t
 unfold gl
 rw[bC f,bC f,bC f]
 exact k
theorem cU.mono {L f:Nat} {w:World} {v:Value} {cs:List aB} (h:cU L w v cs) (q:f<=L):cU f w v cs:=by
 obtain⟨a,d,g,j,l,m⟩:=h
 refine⟨a,d,g,j,l,λi c n=>?_⟩
 obtain⟨b,o,e,r,p,k⟩:=m i c n
 exact⟨b,o,e,by omega,p,k⟩
theorem cU.at {L:Nat} {w:World} {v:Value} {cs:List aB} (h:cU L w v cs):bB w.heap.size w v cs:=by
 obtain⟨a,d,f,g,j,l⟩:=h
 refine⟨a,d,f,g,j,λi c m=>?_⟩
 obtain⟨b,o,e,p,n,k⟩:=l i c m
 exact⟨b,o,e,n,k⟩
def Bq (n:Nat) (cs:List aB) (a:Array Value):Prop:=
 a.size=n*3/\∀ i c,cs[i]?=some c->a[i*3]?=some (.int .i64 c.1)/\a[i*3+1]?=some (.int .i64 c.2.1)/\a[i*3+2]?=some (.int .i64 c.2.2)
def ym (a:Array Value) (o:Nat) (b c d:Value):Array Value:=((a.setIfInBounds o b).setIfInBounds (o+1) c).setIfInBounds (o+2) d
theorem Bq.put {n:Nat} {cs:List aB} {a:Array Value} (h:Bq n cs a) (f:cs.length<n) (c:aB):Bq n (cs++[c]) (ym a (cs.length*3) (.int .i64 c.1) (.int .i64 c.2.1) (.int .i64 c.2.2)):=by
 obtain⟨g,j⟩:=h
 refine⟨by simp[ym,g],λi d b=>?_⟩
 have r:i<cs.length+1:=by have:=(List.getElem?_eq_some_iff.1 b).1;simpa using this
 by_cases e:i=cs.length
 ·subst e
  rw[List.getElem?_append_right (Nat.le_refl _)] at b
  simp at b
  subst b
  have k:cs.length*3<a.size:=by omega
  have l:cs.length*3+1<a.size:=by omega
  have m:cs.length*3+2<a.size:=by omega
  unfold ym
  simp only[Array.getElem?_setIfInBounds]
  refine⟨?_,?_,?_⟩<;>simp[k,l,m]
 ·rw[List.getElem?_append_left (by omega)] at b
  obtain⟨o,p,q⟩:=j i d b
  unfold ym
  simp only[Array.getElem?_setIfInBounds]
  refine⟨?_,?_,?_⟩
  ·rw[if_neg (by omega),if_neg (by omega),if_neg (by omega)];exact o
  ·rw[if_neg (by omega),if_neg (by omega),if_neg (by omega)];exact p
  ·rw[if_neg (by omega),if_neg (by omega),if_neg (by omega)];exact q
theorem BN {w:World} {g o:Nat} {a:Array Value} {b c d:Value} {T:TypeId} (h:w.heap[g]?=some (.cells a T (0,0))):(((w.setCell ⟨g,o,none⟩ b).setCell ⟨g,o+1,none⟩ c).setCell ⟨g,o+2,none⟩ d).heap[g]?=some (.cells (ym a o b c d) T (0,0)):=
 an (o:=o+2) (u:=d) (an (o:=o+1) (u:=c) (an (o:=o) (u:=b) h))
theorem Ak {w:World} {g k:Nat} (o:Nat) (a b c:Value) (h:k≠g):(((w.setCell ⟨g,o,none⟩ a).setCell ⟨g,o+1,none⟩ b).setCell ⟨g,o+2,none⟩ c).heap[k]?=w.heap[k]?:=by
 rw[Below.heap_setCell _ _ _ _ (by show k≠g;exact h),Below.heap_setCell _ _ _ _ (by show k≠g;exact h),Below.heap_setCell _ _ _ _ (by show k≠g;exact h)]
theorem gK {w:World} {g:Nat} {a:Array Value} {T:TypeId} (h:w.heap[g]?=some (.cells a T (0,0))) (o:Nat) (b:o<a.size):(∃ u,w.cell? ⟨g,o,none⟩=some u)/\w.frozen? ⟨g,o,none⟩=false:=by
 refine⟨⟨a[o],?_⟩,by simp[World.frozen?,h]⟩
 simp[World.cell?,h,b]
def EE (G:Nat) (W:World) (b a:Array Value) (T:TypeId) (c:Nat->Value->Prop) (w:World):Prop:=
 Below G W w/\(∀ k,k<W.heap.size->k≠G->w.heap[k]?=W.heap[k]?)/\((∀ v,¬c 9 v)->w.heap[G]?=some (.cells b T (0,0)))/\((∃ v,c 9 v)->w.heap[G]?=some (.cells a T (0,0)))
def DV (a:Value) (k:Nat) (v:Value):Prop:=if k=4 then v=a else True
theorem AI (a:Value) (k:Nat):∃ v,DV a k v:=by
 unfold DV
 split
 ·exact⟨_,rfl⟩
 ·exact⟨undef,trivial⟩
def tz (G:Nat) (W:World):Type:={ w':World // ∀ k,k<W.heap.size->k≠G->w'.heap[k]?=W.heap[k]? }
theorem tz.ne (G:Nat) (W:World):Nonempty (tz G W):=⟨⟨W,λ_ _ _=>rfl⟩⟩
theorem tz.cell {G:Nat} {W:World} (x:tz G W) {b o:Nat} {v:Value} (h:W.cell? ⟨b,o,none⟩=some v) (a:b≠G):x.1.cell? ⟨b,o,none⟩=some v:=by
 rw[bC (x.2 b (World.block_lt_of_cell? _ _ h) a)]
 exact h
end Go.Proofs.YtnpdhopjpjickaaGreatDoor
end
section
set_option linter.all false
set_option maxRecDepth 100000
namespace Go.Proofs.YtnpdhopjpjickaaGreatDoor
open Go.RowKit Go.Maps
theorem bB.full {B:Nat} {w:World} {v:Value} {cs:List aB} (h:bB B w v cs):∃ a b,v=.slice a cs.length b/\cs.length<=b/\b<=maxLen:=by
 obtain⟨a,b,c,d,e,_⟩:=h
 exact⟨a,b,c,d,e⟩
theorem qM:∃ i,Tryz.prog.info? 145=some i/\i.zero=some (.agg #[.int .i64 0,.int .i64 0,.int .i64 0])/\i.size=3/\i.bytes=24:=fD (by kernel_rfl)
def aU (l:List aB):List Value:=l.flatMap λc=>[.int .i64 c.1,.int .i64 c.2.1,.int .i64 c.2.2]
theorem fY (c:aB) (l:List aB):aU (c :: l)=.int .i64 c.1 :: .int .i64 c.2.1 :: .int .i64 c.2.2 :: aU l:=rfl
theorem qH (l m:List aB):aU (l++m)=aU l++aU m:=by unfold aU;exact List.flatMap_append
theorem dH:∀ l:List aB,(aU l).length=l.length*3
 | []=>rfl
 | c :: r=>by rw[fY];simp[dH r];omega
theorem ky:∀ (l:List aB),∀ u∈aU l,u.oneCell'=true
 | [],u,h=>by cases h
 | c :: r,u,h=>by
  rw[fY] at h
  simp at h
  rcases h with rfl | rfl | rfl | h
  ·rfl
  ·rfl
  ·rfl
  ·exact ky r u h
theorem oK:∀ (l:List aB) (i:Nat) (c:aB),l[i]?=some c->(aU l)[i*3]?=some (.int .i64 c.1)/\(aU l)[i*3+1]?=some (.int .i64 c.2.1)/\(aU l)[i*3+2]?=some (.int .i64 c.2.2)
 | [],_,_,h=>by simp at h
 | a :: r,0,c,h=>by
  simp at h
  subst h
  simp[fY]
 | a :: r,i+1,c,h=>by
  have b:=oK r i c (by simpa using h)
  rw[fY,show (i+1)*3=i*3+3 by omega]
  exact b
theorem jJ {w:World} {b o:Nat}:∀ (l:List aB) (o:Nat),(∀ i c,l[i]?=some c->gl w b (o+i*3) c)->∀ j u,(aU l)[j]?=some u->w.cell? ⟨b,o+j,none⟩=some u
 | [],_,_,j,u,h=>by simp[aU] at h
 | c :: r,o,a,j,u,h=>by
  obtain⟨d,e,f,_⟩:=a 0 c rfl
  simp only[Nat.zero_mul,Nat.add_zero] at d e f
  rw[fY] at h
  match j,h with
  | 0,h=>simp at h;subst h;simpa using d
  | 1,h=>simp at h;subst h;exact e
  | 2,h=>simp at h;subst h;exact f
  | j+3,h=>
   have:=jJ (b:=b) (o:=o) r (o+3) (λi c g=>by
    have:=a (i+1) c (by simpa using g)
    rw[show o+(i+1)*3=o+3+i*3 by omega] at this
    exact this) j u (by simpa using h)
   rw[show o+(j+3)=o+3+j by omega]
   exact this
theorem wM {L:Nat} {w:World} {v:Value} {l:List aB} (h:w.ownsRow L 145 3 v l.length (aU l)) (b:∀ c∈l,wf c.1/\wf c.2.1/\wf c.2.2):bB w.heap.size w v l:=by
 obtain⟨a,d,rfl,j,k,m⟩:=ax h
 refine⟨a,d,rfl,j,k,λi c e=>?_⟩
 have r:i<l.length:=(List.getElem?_eq_some_iff.1 e).1
 obtain⟨g,rfl,n,f⟩:=m (by omega)
 obtain⟨o,p,q⟩:=oK l i c e
 refine⟨g,0,rfl,f,?_,?_,?_,b c (List.mem_of_getElem? e)⟩
 all_goals rw[Nat.zero_add]
 ·exact aL h _ _ o
 ·exact aL h _ _ p
 ·exact aL h _ _ q
theorem bB.wfs {B:Nat} {w:World} {v:Value} {l:List aB} (h:bB B w v l):∀ c∈l,Go.Proofs.YtnpdhopjpjickaaGreatDoor.wf c.1/\Go.Proofs.YtnpdhopjpjickaaGreatDoor.wf c.2.1/\Go.Proofs.YtnpdhopjpjickaaGreatDoor.wf c.2.2:=by
 intro c a
 obtain⟨i,b⟩:=List.mem_iff_getElem?.1 a
 obtain⟨_,_,_,_,_,d⟩:=h
 obtain⟨_,_,_,_,k⟩:=d i c b
 exact k.2.2.2
theorem jQ (B d:Nat) (J:TypeId) (v sv:Value) (n:Nat) (xs:List Value) (m:List aB) (W:World) (f:W.ownsRow d 145 3 v n xs) (M:bB B W sv m) (N:(n+m.length)*24<=140737488355328) (p:d<=W.heap.size):
  ∃ z w,(Builtin.append_ #[140,140] J #[v,sv]).run Tryz.prog W=.ok z w/\w.ownsRow d 145 3 z (n+m.length) (xs++aU m)/\Below d W w:=by
 obtain⟨x,q,C,D,E⟩:=qM
 obtain⟨a,y,rfl,O,Q,s⟩:=M
 cases a with
 | none=>
  have R:m=[]:=by
   cases m with
   | nil=>rfl
   | cons r l=>obtain⟨b,o,e,_⟩:=s 0 r rfl;cases e
  subst R
  refine⟨v,W,?_,by simpa [aU] using f,Below.refl _ _⟩
  have F:v=.slice none 0 0\/∃ g c,v=.slice (some g) n c/\n<=c:=by
   rcases f.2 with ⟨h,_⟩ | ⟨g,c,G,h,_,_,S,_⟩
   ·exact .inl h
   ·exact .inr ⟨_,c,h,S⟩
  have K:=run_firstCells_none (P:=Tryz.prog) W x.size 0 0 y
  rcases F with rfl | ⟨g,c,rfl,H⟩
  ·simp[Builtin.append_,run_underlying Tryz.underlying140,sizeOf,typeInfo,q,Builtin.lenOf,K]
  ·simp[Builtin.append_,run_underlying Tryz.underlying140,sizeOf,typeInfo,q,Builtin.lenOf,K,H,storeCells]
 | some L=>
  have t:∀ j u,(aU m)[j]?=some u->W.cell? (L.add j)=some u:=by
   cases m with
   | nil=>intro j u I;simp[aU] at I
   | cons r l=>
    obtain⟨b,o,e,_,_⟩:=s 0 r rfl
    cases e
    intro j u I
    rw[dL]
    refine jJ (o:=o) (r :: l) o (λi c F=>?_) j u I
    obtain⟨X,Y,e,_,k⟩:=s i c F
    cases e
    exact k
  obtain⟨z,w,T,U,V,Z⟩:=run_append_own (P:=Tryz.prog) W d 140 J 145 x _ 3 24 Tryz.underlying140 q C D E rfl (by decide) v n xs f L m.length y (aU m) (dH m) t (ky m) (by rw[ag];omega) N p
  refine⟨z,w,T,U,(Below.refl _ _).grown V p λk A=>?_⟩
  rcases f.2 with ⟨h,_⟩ | ⟨g,c,G,h,hg,_⟩
  ·rw[h] at A;simp[Value.ownBlock] at A
  ·rw[h] at A;simp[Value.ownBlock] at A;omega
end Go.Proofs.YtnpdhopjpjickaaGreatDoor
end
