import Derived.Test.YtffnfdfjojidfaaGreatDoorHx
import Derived.Test.YtffnfdfjojidfaaGreatDoorCards
import Derived.Test.YtffnfdfjojidfaaGreatDoorTie
import Derived.Test.YtffnfdfjojidfaaGreatDoorWr17
import Derived.Test.YtffnfdfjojidfaaGreatDoorWr40
import Derived.Test.YtffnfdfjojidfaaGreatDoorWr45
import Derived.SizedLaws
import Derived.Deep.DeepHandedRow
import Derived.LaidMore
import Derived.Deep.DeepWitnessRowRef
import Derived.Deep.DeepLaidRun
import Derived.LaidSub
import Derived.LaidLaws
set_option linter.all false
set_option maxRecDepth 100000
namespace Go.Proofs.YtffnfdfjojidfaaGreatDoor
open Go.ChangeShapes Go.WideShapes Go.ChangeAt Go.RowKit Go.Deep Go.Proofs.Tryz
theorem err_laid{W:World}{n:String}{j:String}{d:DataW Unit}{g t:Nat}{k:Array (String × TypeId)}(f:prog.globalNamed n=some g)(m:(prog.globals[g]?).map (·.type)=some t)(o:prog.underlying t=some (.interface k))(h:laidMet prog [(n,.iface j d)] W):B6 g W:=by
 obtain⟨x,⟨y,z,r,i,p,q,b,c,a,s,_,_⟩,_⟩:=h;obtain rfl:=KG (f.symm.trans b);obtain rfl:=KG (m.symm.trans c);obtain⟨_,u,v,e,_,_⟩:=iface_of_trod o s;have w:=World.var?_cell f a 0;obtain⟨l⟩:=r;simp at e;subst e;exact⟨.iface u v,by simpa using w,.inr ⟨u,v,rfl⟩⟩
theorem env_laid{W:World}(a:laidMetH prog Rows.worldRunsRow.laid W)(b:W.ShapedOpen prog):dD W:=by
 refine⟨If b,?_,?_,?_⟩
 ·have h:=laidMetH.filter (λx=>x.1== "strconv.ErrSyntax") a;have e:(Rows.worldRunsRow.laid.filter λx=>x.1== "strconv.ErrSyntax")=[("strconv.ErrSyntax",Rows.laid_strconv_ErrSyntax)]:=by kernel_rfl
  rw[e] at h;exact err_laid (g:=3) (by kernel_rfl) (by kernel_rfl) Tryz.underlying159 h
 ·have h:=laidMetH.filter (λx=>x.1== "strconv.ErrRange") a;have e:(Rows.worldRunsRow.laid.filter λx=>x.1== "strconv.ErrRange")=[("strconv.ErrRange",Rows.laid_strconv_ErrRange)]:=by kernel_rfl
  rw[e] at h;exact err_laid (g:=4) (by kernel_rfl) (by kernel_rfl) Tryz.underlying159 h
 have h:=laidMetH.filter (λx=>x.1== "internal/strconv.uint64pow10") a;have e:(Rows.worldRunsRow.laid.filter λx=>x.1== "internal/strconv.uint64pow10")=[("internal/strconv.uint64pow10",Lib.tabData .u64 Lib.pow10Tab)]:=by kernel_rfl
 rw[e] at h;exact Lib.tabIs_of_head (g:=5) (by kernel_rfl) (by kernel_rfl) Tryz.underlying242 Tryz.underlying202 (by kernel_rfl) (by kernel_rfl) h
theorem space_laid{W:World}(a:laidMetH prog Rows.worldRunsRow.laid W):Lib.TabIs prog W "strings.asciiSpace" .u8 Lib.asciiSpaceTab:=by
 have h:=laidMetH.filter (λx=>x.1== "strings.asciiSpace") a;have e:(Rows.worldRunsRow.laid.filter λx=>x.1== "strings.asciiSpace")=[("strings.asciiSpace",Lib.tabData .u8 Lib.asciiSpaceTab)]:=by kernel_rfl
 rw[e] at h;exact Lib.tabIs_of_head (g:=0) (by kernel_rfl) (by kernel_rfl) Tryz.underlying190 Tryz.underlying5 (by kernel_rfl) (by kernel_rfl) h
theorem wru_contract(H:Type)(enc:TypeId × Value->H)(W:World)(base:Nat)(a:Array Value)(i y:List (DataW H))(c:List MemPlace)
  (b:∀ (j:Nat) t v,Tryz.f4.params[j]?=some t->a[j]?=some v->Value.okWide prog W .any base t v)
  (z:DataW.Whole enc prog Tryz.f4.params.toList Rows.worldRunsSpec.vars false W a.toList i y c) (d:(DataW.weightsEach prog (Tryz.f4.params.toList++(OpenSpec.ofChange Rows.worldRunsSpec).bare.plain.varTypes prog) (i++y)).all (·<=reachBytes)=true) (A:laidMetH prog Rows.worldRunsRow.laid W) (k:W.ShapedOpen prog):
  cL 4 a W λe B=>∃v,e=.returned v/\Rows.worldRunsSpec.post enc prog Tryz.f4 false true false false W a v B:=by
 have l:=z;obtain⟨p,q,f,D,rfl,E,F⟩:=z;have hA:DataW.TrodAll enc prog W 0 (λ_=>true) true Tryz.f4.params.toList a.toList i p:=f;rw[Tryz.params4] at hA b d;have m:=hA;obtain⟨o,G,V,I,X,Y,r,rfl,rfl,J,K⟩:=trodAll_cons hA;obtain⟨s,L,d1,M,p1,q1,rfl,rfl,rfl,N,O⟩:=trodAll_cons K;obtain⟨rfl,rfl,rfl⟩:=trodAll_nil O;obtain rfl:a=#[o,s]:=by cases a;simp_all
 obtain⟨rfl,rfl⟩:=trodVars_none D
 obtain⟨P,u,w⟩:=IL (b 0 27 o rfl rfl) J (λn Q=>by
  have R:reachBytes=140737488351232:=by decide
  have:=MB.1 d _ (DataW.weights_mem_each (j:=0) (t:=27) rfl rfl n Q);rw[R] at this
  simpa using this)
 obtain⟨S,x⟩:=Jp (b 1 50 s rfl rfl) N;clear f;refine(Ia W.1.size o s P S W (env_laid A k) (space_laid A) u x lE w).mono λe B ⟨T,g⟩=>?_
 subst T;exact⟨_,rfl,_,_,_,[],_,[],l,trodAll_mk1 (shut_bool Tryz.underlying4 _),xT JI g _ _ _ _ (by intro t C;simp at C;rcases C with rfl|rfl<;>exact⟨by kernel_rfl,of_decide_eq_true (by kernel_rfl)⟩) m,rfl,g.frame _,λh=>by cases h⟩
def layFirst(h:Array Obj):Array Obj:=h.modify 6 λo=>match o with
 |.cells _ t a=>.cells (Go.Pinned.utf8FirstZ.map λn=>Value.int .u8 (Int.ofNat n)).toArray t a
 |o=>o
set_option maxHeartbeats 8000000 in
theorem wru_lifted(os:Os)(c:os.Started)(H:Type)(enc:TypeId × Value->H)(F:Stop.Interp):
  ReturnsInHanded {} Tryz.checked os 4 .any ((OpenSpec.ofChange Rows.worldRunsSpec).preRow enc prog Tryz.f4 Rows.worldRunsRow.domain false Rows.worldRunsRow.laid) (((OpenSpec.ofChange Rows.worldRunsSpec).at F).post enc prog Tryz.f4 false true false false):=by
 obtain⟨e,b⟩:∃e:World,e={ World.doorLaid prog 3000 os with heap:=layFirst (World.doorLaid prog 3000 os).heap }:=⟨_,rfl⟩;have i:∃a,DataW.whole enc prog (e.forCall (λ_ _=>0) ⟨#[],#[.agg #[nL,nL,nL,.bool false],nL],[]⟩).memory Tryz.f4.params.toList Rows.worldRunsSpec.vars false [Value.agg #[nL,nL,nL,.bool false],nL] 8=some ([.agg [.nil,.agg [.nil,.nil],.lit (.bool false)],.nil],[],a):=⟨[],by rw[b];as_aux_lemma=>kernel_rfl⟩
 have n:laidMetH prog Rows.worldRunsRow.laid (e.forCall (λ_ _=>0) ⟨#[],#[.agg #[nL,nL,nL,.bool false],nL],[]⟩).memory:=by
  rw[b];exact laidMetH_of_parts3 (fuel:=8) (laidMet_of_run3 8 (by as_aux_lemma=>kernel_rfl) (by as_aux_lemma=>kernel_rfl) (by as_aux_lemma=>kernel_rfl)) (by as_aux_lemma=>kernel_rfl) (by as_aux_lemma=>kernel_rfl)
 obtain⟨a,i⟩:=i
 refine returnsInHanded_of_row (C:=Tryz.checked) (s:=OpenSpec.ofChange Rows.worldRunsSpec) EL c (by as_aux_lemma=>kernel_rfl) func4
  (witness_row_atRef (enc:=enc) (C:=Tryz.checked) false e #[.agg #[nL,nL,nL,.bool false],nL] (by rw[b];rfl) (by rw[b];as_aux_lemma=>kernel_rfl) (by rw[b];as_aux_lemma=>kernel_rfl) (by rw[b];as_aux_lemma=>kernel_rfl)
   (OpenSpec.preRow_of_cond 8 i (by as_aux_lemma=>kernel_rfl) (λk o=>by cases o) (by as_aux_lemma=>kernel_rfl) n)) ?_
 intro W f g p q d h r _ j l t m _;exact wru_contract H enc W f g p q d h r l t m
end Go.Proofs.YtffnfdfjojidfaaGreatDoor
