import Derived.Test.YtjdnfhkkkejcfaaGreatDoorHx
import Derived.Test.YtjdnfhkkkejcfaaGreatDoorCards
import Derived.Test.YtjdnfhkkkejcfaaGreatDoorTie
import Derived.Test.YtjdnfhkkkejcfaaGreatDoorWd11
import Derived.Test.YtjdnfhkkkejcfaaGreatDoorWd39
import Derived.Test.YtjdnfhkkkejcfaaGreatDoorWd44
import Derived.SizedLaws
import Derived.Deep.DeepHandedRow
import Derived.LaidMore
import Derived.Deep.DeepWitnessRowRef
import Derived.Deep.DeepLaidRun
import Derived.LaidSub
import Derived.LaidLaws
set_option linter.all false
set_option maxRecDepth 100000
namespace Go.Proofs.YtjdnfhkkkejcfaaGreatDoor
open Go.ChangeShapes Go.WideShapes Go.ChangeAt Go.RowKit Go.Deep Go.Proofs.Tryz
theorem err_laid{W:World}{n:String}{j:String}{d:DataW Unit}{g t:Nat}{k:Array (String × TypeId)}(f:prog.globalNamed n=some g)(m:(prog.globals[g]?).map (·.type)=some t)(o:prog.underlying t=some (.interface k))(h:laidMet prog [(n,.iface j d)] W):B6 g W:=by
 obtain⟨x,⟨y,z,r,i,p,q,b,c,a,s,_,_⟩,_⟩:=h;obtain rfl:=KG (f.symm.trans b);obtain rfl:=KG (m.symm.trans c);obtain⟨_,u,v,e,_,_⟩:=iface_of_trod o s;have w:=World.var?_cell f a 0;obtain⟨l⟩:=r;simp at e;subst e;exact⟨.iface u v,by simpa using w,.inr ⟨u,v,rfl⟩⟩
theorem env_laid{W:World}(a:laidMetH prog Rows.worldDoesRow.laid W)(b:W.ShapedOpen prog):dD W:=by
 refine⟨If b,?_,?_,?_⟩
 ·have h:=laidMetH.filter (λx=>x.1== "strconv.ErrSyntax") a;have e:(Rows.worldDoesRow.laid.filter λx=>x.1== "strconv.ErrSyntax")=[("strconv.ErrSyntax",Rows.laid_strconv_ErrSyntax)]:=by kernel_rfl
  rw[e] at h;exact err_laid (g:=3) (by kernel_rfl) (by kernel_rfl) Tryz.underlying158 h
 ·have h:=laidMetH.filter (λx=>x.1== "strconv.ErrRange") a;have e:(Rows.worldDoesRow.laid.filter λx=>x.1== "strconv.ErrRange")=[("strconv.ErrRange",Rows.laid_strconv_ErrRange)]:=by kernel_rfl
  rw[e] at h;exact err_laid (g:=4) (by kernel_rfl) (by kernel_rfl) Tryz.underlying158 h
 have h:=laidMetH.filter (λx=>x.1== "internal/strconv.uint64pow10") a;have e:(Rows.worldDoesRow.laid.filter λx=>x.1== "internal/strconv.uint64pow10")=[("internal/strconv.uint64pow10",Lib.tabData .u64 Lib.pow10Tab)]:=by kernel_rfl
 rw[e] at h;exact Lib.tabIs_of_head (g:=5) (by kernel_rfl) (by kernel_rfl) Tryz.underlying241 Tryz.underlying201 (by kernel_rfl) (by kernel_rfl) h
theorem space_laid{W:World}(a:laidMetH prog Rows.worldDoesRow.laid W):Lib.TabIs prog W "strings.asciiSpace" .u8 Lib.asciiSpaceTab:=by
 have h:=laidMetH.filter (λx=>x.1== "strings.asciiSpace") a;have e:(Rows.worldDoesRow.laid.filter λx=>x.1== "strings.asciiSpace")=[("strings.asciiSpace",Lib.tabData .u8 Lib.asciiSpaceTab)]:=by kernel_rfl
 rw[e] at h;exact Lib.tabIs_of_head (g:=0) (by kernel_rfl) (by kernel_rfl) Tryz.underlying189 Tryz.underlying5 (by kernel_rfl) (by kernel_rfl) h
theorem wdo_contract(H:Type)(enc:TypeId × Value->H)(W:World)(base:Nat)(a:Array Value)(i E:List (DataW H))(c:List MemPlace)
  (b:∀ (j:Nat) t v,Tryz.f3.params[j]?=some t->a[j]?=some v->Value.okWide prog W .any base t v)
  (F:DataW.Whole enc prog Tryz.f3.params.toList Rows.worldDoesSpec.vars false W a.toList i E c) (d:(DataW.weightsEach prog (Tryz.f3.params.toList++(OpenSpec.ofChange Rows.worldDoesSpec).bare.plain.varTypes prog) (i++E)).all (·<=reachBytes)=true) (G:laidMetH prog Rows.worldDoesRow.laid W) (k:W.ShapedOpen prog):
  cL 3 a W λe I=>∃v,e=.returned v/\Rows.worldDoesSpec.post enc prog Tryz.f3 false true false false W a v I:=by
 have l:=F;obtain⟨p,q,f,M,rfl,N,O⟩:=F;have hA:DataW.TrodAll enc prog W 0 (λ_=>true) true Tryz.f3.params.toList a.toList i p:=f;rw[Tryz.params3] at hA b d;have m:=hA;obtain⟨o,P,d0,Q,p0,q0,r,rfl,rfl,R,S⟩:=trodAll_cons hA;obtain⟨s,T,d1,V,p1,q1,rfl,rfl,rfl,X,Y⟩:=trodAll_cons S;obtain⟨u,a5,d2,a6,p2,q2,rfl,rfl,rfl,h2,r2⟩:=trodAll_cons Y;obtain⟨J,a9,d3,aa,p3,q3,rfl,rfl,rfl,h3,r3⟩:=trodAll_cons r2;obtain⟨K,ae,d4,af,p4,q4,rfl,rfl,rfl,h4,r4⟩:=trodAll_cons r3;obtain⟨rfl,rfl,rfl⟩:=trodAll_nil r4;obtain rfl:a=#[o,s,u,J,K]:=by cases a;simp_all
 obtain⟨rfl,rfl⟩:=trodVars_none M
 obtain⟨a0,w,x⟩:=IL (b 0 27 o rfl rfl) R (λn y=>by
  have z:reachBytes=140737488351232:=by decide
  have:=MB.1 d _ (DataW.weights_mem_each (j:=0) (t:=27) rfl rfl n y);rw[z] at this
  simpa using this)
 obtain⟨a1,A⟩:=Jt (b 1 32 s rfl rfl) X
 obtain⟨a2,B,C⟩:=IL (b 2 27 u rfl rfl) h2 (λn y=>by
  have z:reachBytes=140737488351232:=by decide
  have:=MB.1 d _ (DataW.weights_mem_each (j:=2) (t:=27) rfl rfl n y);rw[z] at this
  simpa using this)
 obtain⟨a3,rfl,D⟩:=JF (b 3 3 J rfl rfl) h3;obtain⟨a4,rfl⟩:=Jl (b 4 34 K rfl rfl) h4;clear f;refine(I8 W.1.size o s u a0 a1 a2 a3 a4 W (env_laid G k) (space_laid G) w A B D lE x C).mono λe I ⟨he,g⟩=>?_
 subst he;exact⟨_,rfl,_,_,_,[],_,[],l,trodAll_mk1 (shut_bool Tryz.underlying4 _),xT JI g _ _ _ _ (by intro t L;simp at L;rcases L with rfl|rfl|rfl|rfl|rfl<;>exact⟨by kernel_rfl,of_decide_eq_true (by kernel_rfl)⟩) m,rfl,g.frame _,λh=>by cases h⟩
def layFirst(h:Array Obj):Array Obj:=h.modify 6 λo=>match o with
 |.cells _ t a=>.cells (Go.Pinned.utf8FirstZ.map λn=>Value.int .u8 (Int.ofNat n)).toArray t a
 |o=>o
set_option maxHeartbeats 8000000 in
theorem wdo_lifted(os:Os)(c:os.Started)(H:Type)(enc:TypeId × Value->H)(F:Stop.Interp):
  ReturnsInHanded {} Tryz.checked os 3 .any ((OpenSpec.ofChange Rows.worldDoesSpec).preRow enc prog Tryz.f3 Rows.worldDoesRow.domain false Rows.worldDoesRow.laid) (((OpenSpec.ofChange Rows.worldDoesSpec).at F).post enc prog Tryz.f3 false true false false):=by
 obtain⟨e,b⟩:∃e:World,e={ World.doorLaid prog 3000 os with heap:=layFirst (World.doorLaid prog 3000 os).heap }:=⟨_,rfl⟩;have i:∃a,DataW.whole enc prog (e.forCall (λ_ _=>0) ⟨#[],#[.agg #[nL,nL,nL,.bool false],.agg #[U 0,U 0,U 0,nL,U 0],.agg #[nL,nL,nL,.bool false],U 0,.agg #[U 0,U 0,U 0,U 0,U 0]],[]⟩).memory Tryz.f3.params.toList Rows.worldDoesSpec.vars false [Value.agg #[nL,nL,nL,.bool false],.agg #[U 0,U 0,U 0,nL,U 0],.agg #[nL,nL,nL,.bool false],U 0,.agg #[U 0,U 0,U 0,U 0,U 0]] 8=some ([.agg [.nil,.agg [.nil,.nil],.lit (.bool false)],.agg [.lit (.int .i64 0),.lit (.int .i64 0),.lit (.int .i64 0),.agg [.nil,.lit (.int .i64 0)]],.agg [.nil,.agg [.nil,.nil],.lit (.bool false)],.lit (.int .i64 0),.agg [.lit (.int .i64 0),.lit (.int .i64 0),.lit (.int .i64 0),.lit (.int .i64 0),.lit (.int .i64 0)]],[],a):=⟨[],by rw[b];as_aux_lemma=>kernel_rfl⟩
 have n:laidMetH prog Rows.worldDoesRow.laid (e.forCall (λ_ _=>0) ⟨#[],#[.agg #[nL,nL,nL,.bool false],.agg #[U 0,U 0,U 0,nL,U 0],.agg #[nL,nL,nL,.bool false],U 0,.agg #[U 0,U 0,U 0,U 0,U 0]],[]⟩).memory:=by
  rw[b];exact laidMetH_of_parts3 (fuel:=8) (laidMet_of_run3 8 (by as_aux_lemma=>kernel_rfl) (by as_aux_lemma=>kernel_rfl) (by as_aux_lemma=>kernel_rfl)) (by as_aux_lemma=>kernel_rfl) (by as_aux_lemma=>kernel_rfl)
 obtain⟨a,i⟩:=i
 refine returnsInHanded_of_row (C:=Tryz.checked) (s:=OpenSpec.ofChange Rows.worldDoesSpec) EL c (by as_aux_lemma=>kernel_rfl) func3
  (witness_row_atRef (enc:=enc) (C:=Tryz.checked) false e #[.agg #[nL,nL,nL,.bool false],.agg #[U 0,U 0,U 0,nL,U 0],.agg #[nL,nL,nL,.bool false],U 0,.agg #[U 0,U 0,U 0,U 0,U 0]] (by rw[b];rfl) (by rw[b];as_aux_lemma=>kernel_rfl) (by rw[b];as_aux_lemma=>kernel_rfl) (by rw[b];as_aux_lemma=>kernel_rfl)
   (OpenSpec.preRow_of_cond 8 i (by as_aux_lemma=>kernel_rfl) (λk o=>by cases o) (by as_aux_lemma=>kernel_rfl) n)) ?_
 intro W f g p q d h r _ j l t m _;exact wdo_contract H enc W f g p q d h r l t m
end Go.Proofs.YtjdnfhkkkejcfaaGreatDoor
