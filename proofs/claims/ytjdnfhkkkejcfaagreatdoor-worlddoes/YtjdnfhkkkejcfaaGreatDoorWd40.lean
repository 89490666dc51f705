import Derived.Test.YtjdnfhkkkejcfaaGreatDoorWd27
import Derived.Lib.MakeNoZero
set_option linter.all false
set_option maxRecDepth 100000
set_option maxHeartbeats 2000000
namespace Go.Proofs.YtjdnfhkkkejcfaaGreatDoor
open Go.RowKit Go.Maps Go.Proofs.Tryz
theorem Cw(B b n:Nat)(w:World)(r:B<=b)(a:w.1[b]?=some (.cells #[.pointer (sO b),nL] 226 (0,0)))(j:B<=w.1.size)(s:n<=100000000000):
  cL 215 #[.pointer (sO b),U n] w λe p=>e=.returned (.tuple #[])/\sJ B b [] p/\Below B w p:=by
 obtain⟨x,t,u,k,v⟩:=mo;obtain⟨d,f,l,g⟩:=Lib.run_makeNoZero (P:=prog) w.drew #[3] 23 5 Tryz.underlying23 n (by omega);have q:IntKind.i64.wrap (IntKind.i64.wrap 0+(n:Int))=n:=by rw[IntKind.wrap_i64,IntKind.wrap_i64];omega
 have m:(callFunc 228 #[U (IntKind.i64.wrap (IntKind.i64.wrap 0+(n:Int)))]).run prog w.drew=.ok (.value (.slice (sO w.drew.1.size) n d.size)) (w.drew.drew.drew.alloc (.cells d 5)):=by rw[q,MD func228 (by kernel_rfl) (by kernel_rfl) (by kernel_rfl) (e:=Extern.BytealgMakeNoZero.makeNoZero #[3] #[23]) (by kernel_rfl),f];rfl
 have h:=io a;have y:w.drew.cell? (pA b 1)=some nL:=by have:w.drew.1[b]?=_:=a;rw[Lm this];rfl
 have c:(w.alloc (.cells d 5)).1[b]?=_:=(Lib.alloc_old w _ b h).trans a;have z:(w.alloc (.cells d 5)).cell? (pA b 1)=some nL:=by rw[Lm c];rfl
 have A:(w.alloc (.cells d 5)).frozen? (pA b 1)=false:=MP c 1
 have o:∀W:World,(Builtin.copy_ #[23,23] 3 #[.slice (sO w.1.size) 0 d.size,nL]).run prog W=.ok (goInt 0) W:=
  λW=>run_copy_none W 23 23 3 5 _ _ 0 d.size 0 0 Tryz.underlying23 (by rw[t];simp[k]) rfl
 have i:=Lib.grown_fresh (T:=226) (e:=5) (cs:=d) r a j (g (by unfold maxLen;omega)) (by decide);clear q c h a l g f s;go_enter func215,ntmps215;go_wp2;go_region
 all_goals (go_wp2;go_end0;exact⟨rfl,i⟩)
theorem AK(B b n:Nat)(w:World)(g:B<=b)(c:w.1[b]?=some (.cells #[.pointer none,nL] 226 (0,0)))(h:B<=w.1.size)(k:n<=100000000000):
  cL 189 #[.pointer (sO b),U n] w λe f=>e=.returned (.tuple #[])/\sJ B b [] f/\Below B w f:=by
 have a:(w.setCell (pA b 0) (.pointer (sO b))).1[b]?=some (.cells #[.pointer (sO b),nL] 226 (0,0)):=by simp[World.setCell,Array.getElem?_modify,c]
 have l:(w.setCell (pA b 0) (.pointer (sO b))).cell? (pA b 1)=some nL:=by rw[Lm a];rfl
 have d:Below B w (w.setCell (pA b 0) (.pointer (sO b))):=(Kf B w).setCell (p:=pA b 0) g _;have m:sJ B b [] (w.setCell (pA b 0) (.pointer (sO b))):=⟨g,nL,a,World.ownsRow_nil _ _ _ _,by simp[Value.ownBlock]⟩;have o:(w.setCell (pA b 0) (.pointer (sO b))).drew.cell? (pA b 1)=some nL:=l;have i:Hid _:=tN b w (by rw[Lm c];rfl) (by simp[World.shape?,c]) (MP c 0);have j:Hid _:=Cw B b n (w.setCell (pA b 0) (.pointer (sO b))).drew g a (by simpa [World.setCell,World.drew,-World.drew_eq] using h) k;go_enter func189,ntmps189;go_wp2_with fail;go_at_call 214;refine Calls.mono i.o ?_;rintro e f ⟨rfl,rfl⟩;go_wp2_with fail;go_region
 all_goals go_wp2_with fail
 all_goals first
  |(go_at_call 215;refine Calls.mono j.o ?_;rintro e f ⟨rfl,q,r⟩;go_wp2_with fail;go_end0;exact⟨rfl,q,d.drew.trans r⟩)
  |(go_end0;exact⟨rfl,m.drew,d.drew⟩)
