import Derived.Test.YtjdnfhkkkejcfaaGreatDoorWd24
import Derived.Test.YtjdnfhkkkejcfaaGreatDoorWd25
import Derived.Test.YtjdnfhkkkejcfaaGreatDoorWd26
set_option linter.all false
set_option maxRecDepth 100000
set_option maxHeartbeats 8000000
namespace Go.Proofs.YtjdnfhkkkejcfaaGreatDoor
open Go.RowKit Go.Maps Go.Proofs.Tryz
theorem Bi(s:ByteArray)(c:s.size<=60000)(w)(f:dD w):
  cL 77 #[.string s] w λe g=>∃v,e=.returned (.tuple #[v,U (ch s.1.1).2])/\gi w.1.size g v (ch s.1.1).1/\bL w g:=by
 by_cases d:bt kN ((ar s.1.1).getD 0 [])<0\/(bt kN ((ar s.1.1).getD 0 [])=3/\(ar s.1.1).length≠2)\/(bt kN ((ar s.1.1).getD 0 [])<3/\(ar s.1.1).length≠3)
 ·have h:ch s.1.1=(cu,1):=by unfold ch;rw[Io d]
  refine(Bu s c w f d).mono λe g ⟨k,l⟩=>⟨.agg #[U 0,U 0,U 0,nL,U 0],by rw[k,h],by rw[h];exact dg _ _,l⟩
 have i:=jO kN ((ar s.1.1).getD 0 []);have j:kN.length=4:=rfl;rw[j] at i;have m:(bt kN ((ar s.1.1).getD 0 [])=0/\(ar s.1.1).length=3)\/(bt kN ((ar s.1.1).getD 0 [])=1/\(ar s.1.1).length=3)\/(bt kN ((ar s.1.1).getD 0 [])=2/\(ar s.1.1).length=3)\/(bt kN ((ar s.1.1).getD 0 [])=3/\(ar s.1.1).length=2):=by omega
 rcases m with ⟨a,b⟩|⟨a,b⟩|⟨a,b⟩|⟨a,b⟩
 ·exact tX 1 (.inl rfl) s c w f a b
 ·exact tX 2 (.inr rfl) s c w f a b
 ·exact Az s c w f a b
 exact Ab s c w f a b
theorem pZ:∀ (k:Nat) (s:Bs),Lib.splitK [10] 1 k s=fG k s
 |0,s=>rfl
 |k+1,s=>by
  unfold fG
  cases h:i8 s with
  |none=>
   have:=oa 10 s (qP h);unfold Lib.splitK;rw[this];rfl
  |some x=>
   obtain⟨a,t⟩:=x;obtain⟨rfl,b⟩:=gL h;have:=pK 10 t a b
   conv=>lhs;unfold Lib.splitK
   rw[this,iO (by simp)];simp only;rw[<-pZ k t];simp[List.take_append,List.drop_append];exact⟨Ki (by omega),by rw[LG (by omega)];rfl⟩
theorem sL:∀ (k j:Nat) (s:Bs),s.count 10<=k->s.count 10<=j->fG k s=fG j s
 |0,0,s,_,_=>rfl
 |0,j+1,s,h,_=>by
  have b:(10:UInt8) ∉ s:=List.count_eq_zero.1 (by omega)
  conv=>rhs;unfold fG
  rw[o6 s b];rfl
 |k+1,0,s,_,h=>by
  have b:(10:UInt8) ∉ s:=List.count_eq_zero.1 (by omega)
  conv=>lhs;unfold fG
  rw[o6 s b];rfl
 |k+1,j+1,s,c,d=>by
  unfold fG
  cases h:i8 s with
  |none=>rfl
  |some x=>
   obtain⟨a,t⟩:=x;obtain⟨rfl,b⟩:=gL h;have e:(a++10 :: t).count 10=t.count 10+1:=by rw[List.count_append,List.count_eq_zero.2 b,List.count_cons_self,Kp]
   simp only;rw[sL k j t (by omega) (by omega)]
theorem si:∀ (k:Nat) (s:Bs),∀t∈fG k s,t.length<=s.length
 |0,s,t,h=>by simp[fG] at h;rw[h];exact Ke _
 |k+1,s,t,h=>by
  unfold fG at h
  cases hc:i8 s with
  |none=>
   rw[hc] at h;simp at h;rw[h];exact Ke _
  |some x=>
   obtain⟨a,u⟩:=x;rw[hc] at h;have:=mY hc
   rcases Kz.1 h with rfl|h
   ·simp;omega
   have:=si k u t h;omega
theorem vD(t:ByteArray)(r:t.size<=60000):∃a:List ByteArray,a.map (λp:ByteArray=>p.1.1)=fG t.1.1.length t.1.1/\a.length<=60001/\(∀u∈a,u.size<=60000)/\
  ∀l w,w.cell? ⟨1,0,none⟩=some (U l)->cL 75 #[.string t,.string ⟨#[10]⟩] w λe h=>∃SB g,e=.returned (.slice (sO SB) a.length g)/\a.length<=g/\g<=60001/\bL w h/\w.1.size<=SB/\SB<h.1.size/\∀j u,a[j]?=some u->h.cell? ⟨SB,j,none⟩=some (.string u):=by
 have⟨a,c⟩:=nM (Lib.splitB ⟨#[10]⟩ 1 (Lib.countB t ⟨#[10]⟩) t);have d:Lib.countB t ⟨#[10]⟩=t.1.1.count 10:=MG 10 t.1.1;have i:t.1.1.count 10<=t.1.1.length:=List.count_le_length;have m:t.1.1.length=t.size:=(KR t).symm;have b:a.map (λp:ByteArray=>p.1.1)=fG t.1.1.length t.1.1:=by rw[c,Lib.splitB_data,d];show Lib.splitK [10] 1 _ _=_;rw[pZ];exact sL _ _ _ lE i
 have f:a.length<=Lib.countB t ⟨#[10]⟩+1:=by rw[c];exact Lib.splitB_length_le _ _ _ _
 refine⟨a,b,by omega,λu k=>?_,λl w n=>?_⟩
 ·have:u.1.1∈fG t.1.1.length t.1.1:=by rw[<-b];exact List.mem_map_of_mem k
  have:=si _ _ _ this;rw[KR];omega
 have q:Hid (cL 103 #[.string t,.string ⟨#[10]⟩,U 1,U (-1)] w λe h=>e=.returned (.slice (MZ w) a.length (Lib.countB t ⟨#[10]⟩+1))/\h=w.alloc (.cells (Lib.cellsOf a (Lib.countB t ⟨#[10]⟩+1)) 9)):=by have:=Tryz.strings_genSplit t ⟨#[10]⟩ 1 (-1) (Lib.countB t ⟨#[10]⟩+1) l w (by omega) n (by decide) (by decide) (by decide) (by decide) (by rw[Io (by decide)];omega);rw[M8,<-c] at this;exact this
 have o:=Z2 f (by omega:Lib.countB t ⟨#[10]⟩+1<=60001);clear c b d i m f n;generalize Lib.countB t ⟨#[10]⟩+1=N at*;go_enter func75,ntmps75;go_wp2_with fail;go_at_call 103;refine q.o.mono ?_;rintro e s ⟨rfl,rfl⟩;go_wp2_with fail;go_ret;refine⟨w.1.size,N,rfl,o.o.1,o.o.2,bR.alloc lE _,Ke _,by simp,λj u k=>?_⟩;refine ab (ah w _) j ?_;unfold Lib.cellsOf;rw[LK,Kh (by simp;exact(K9.1 k).1),Ku,k];rfl
theorem Fl(s:Bs):Lib.hasSuffix s [10]=decide (s.getLast?=some 10):=by
 unfold Lib.hasSuffix
 by_cases h:s.getLast?=some 10
 ·rw[KS h]
  obtain⟨t,rfl⟩:∃t,s=t++[10]:=by
   rcases List.eq_nil_or_concat s with rfl|⟨t,b,rfl⟩
   ·simp at h
   simp at h;exact⟨t,by simp[h]⟩
  rw[List.isSuffixOf_iff_suffix];exact List.suffix_append _ _
 rw[KD h];refine Bool.eq_false_iff.2 λe=>h ?_
 obtain⟨t,rfl⟩:=List.isSuffixOf_iff_suffix.1 e;simp
def jn(L:Nat)(g:Option Nat)(w:World)(v:Value)(r:az):Prop:=∀a:World,(∀k,L<=k->some k≠g->k<w.1.size->a.1[k]?=w.1[k]?)->w.1.size<=a.1.size->cI a.1.size a v r
theorem jn.of_new{L a:Nat}{g:Option Nat}{w v r}(h:gi a w v r)(b:L<=a)(c:∀k,g=some k->k<a):jn L g w v r:=λd f i=>h d (λk j l=>f k (Kl b j) (λe=>by have:=c k e.symm;omega) l) i
theorem jn.grown{L}{g a:Option Nat}{w w':World}{v r}(h:jn L g w v r)(b:w.grownBy w' g)(c:a=g\/∃k,a=some k/\w.1.size<=k):jn L a w' v r:=λm n o=>h m (λk d i l=>by
 have f:some k≠a:=by
  rcases c with e|⟨j,e,q⟩
  ·rw[e];exact i
  rw[e];intro p;have:=KG p;omega
 exact(n k d f (Kd l b.size)).trans (b.block k l i)) (Kl b.size o)
def Ed(L:Nat)(g:Option Nat)(w:World)(xs:List Value)(a:List az):Prop:=
 xs.length=a.length*5/\(∀u∈xs,u.oneCell'=true)/\∀i r,a[i]?=some r->∃b,xs[i*5]?=some (U r.1)/\xs[i*5+1]?=some (U r.2.1)/\xs[i*5+2]?=some (U r.2.2.1)/\xs[i*5+3]?=some b/\xs[i*5+4]?=some (U r.2.2.2.2)/\jn L g w (.agg #[U r.1,U r.2.1,U r.2.2.1,b,U r.2.2.2.2]) r
theorem Ed.grown{L}{g a:Option Nat}{w w':World}{xs rs}(h:Ed L g w xs rs)(c:w.grownBy w' g)(b:a=g\/∃k,a=some k/\w.1.size<=k):Ed L a w' xs rs:=by obtain⟨d,e,f⟩:=h;refine⟨d,e,λi r j=>?_⟩;have⟨l,m,n,o,p,q,s⟩:=f i r j;exact⟨l,m,n,o,p,q,s.grown c b⟩
theorem Ed.l{L g w w' xs rs}(h:Ed L g w xs rs)(a:bL w w'):Ed L g w' xs rs:=h.grown (fX a g) (.inl rfl)
theorem DS{L j:Nat}{w:World}{v:Value}{xs:List Value}{b:List az}(h:w.ownsRow L 70 5 v b.length xs)(k:Ed j v.ownBlock w xs b):dh w.1.size w v b:=by
 obtain⟨a,e,rfl,l,m,n⟩:=an h;refine⟨a,e,rfl,l,m,λi r d=>?_⟩;have y:i<b.length:=(K9.1 d).1;obtain⟨g,rfl,o,f⟩:=n (by omega);have⟨p,q,s,t,u,x,d⟩:=k.2.2 i r d;have c:=aK h;refine⟨g,0,rfl,f,p,?_,?_,?_,?_,?_,d w (λ_ _ _ _=>rfl) lE⟩
 ·rw[Kp];exact c _ _ q
 ·rw[Kp];exact c _ _ s
 ·rw[Kp];exact c _ _ t
 ·rw[Kp];exact c _ _ u
 rw[Kp];exact c _ _ x
def qt(L:Nat)(w:World)(v:Value)(d:List az):Prop:=
 ∃a c,v=.slice a d.length c/\d.length<=c/\c<=maxLen/\∀i r,d[i]?=some r->∃b o e,a=some ⟨b,o,none⟩/\L<=b/\w.cell? ⟨b,o+i*5,none⟩=some (U r.1)/\w.cell? ⟨b,o+i*5+1,none⟩=some (U r.2.1)/\w.cell? ⟨b,o+i*5+2,none⟩=some (U r.2.2.1)/\w.cell? ⟨b,o+i*5+3,none⟩=some e/\w.cell? ⟨b,o+i*5+4,none⟩=some (U r.2.2.2.2)/\gi L w (.agg #[U r.1,U r.2.1,U r.2.2.1,e,U r.2.2.2.2]) r
theorem qt.keep{L}{w wF:World}{v rs}(h:qt L w v rs)(f:∀g,L<=g->g<w.1.size->wF.1[g]?=w.1[g]?)(j:w.1.size<=wF.1.size):qt L wF v rs:=by
 obtain⟨a,d,p,s,t,x⟩:=h;refine⟨a,d,p,s,t,λi r y=>?_⟩;have⟨b,o,z,e,k,A,B,C,D,E,F⟩:=x i r y;have c:∀q u,w.cell? ⟨b,q,none⟩=some u->wF.cell? ⟨b,q,none⟩=some u:=λq u l=>by have e:=f b k (KE _ _ l);rw[<-l];simp only[World.cell?,e]
 exact⟨b,o,z,e,k,c _ _ A,c _ _ B,c _ _ C,c _ _ D,c _ _ E,λG H I=>F G (λg m n=>(H g m (Kd n j)).trans (f g m n)) (Kl j I)⟩
theorem qt.l{L w w' v rs}(h:qt L w v rs)(a:bL w w'):qt L w' v rs:=h.keep (λg _ b=>a.block g b) a.size
theorem qt.mono{L d:Nat}{w v rs}(h:qt L w v rs)(f:d<=L):qt d w v rs:=by obtain⟨a,c,j,k,l,m⟩:=h;refine⟨a,c,j,k,l,λi r n=>?_⟩;have⟨b,o,p,e,q,s,t,u,x,y,z⟩:=m i r n;exact⟨b,o,p,e,Kl f q,s,t,u,x,y,λA B C=>z A (λg D E=>B g (Kl f D) E) C⟩
theorem qt.recs{L w v rs}(h:qt L w v rs):dh w.1.size w v rs:=by obtain⟨a,c,f,g,j,k⟩:=h;refine⟨a,c,f,g,j,λi r l=>?_⟩;have⟨b,o,m,e,u,d,n,p,q,s,t⟩:=k i r l;exact⟨b,o,e,KE _ _ d,m,d,n,p,q,s,t.at⟩
theorem uQ{L:Nat}{w:World}{v:Value}{xs:List Value}{b:List az}(h:w.ownsRow L 70 5 v b.length xs)(j:Ed L v.ownBlock w xs b):qt L w v b:=by
 obtain⟨a,e,rfl,l,m,n⟩:=an h;refine⟨a,e,rfl,l,m,λi r d=>?_⟩;have D:i<b.length:=(K9.1 d).1;obtain⟨g,rfl,f,o⟩:=n (by omega);have⟨p,q,s,t,u,x,d⟩:=j.2.2 i r d;have c:=aK h;refine⟨g,0,p,rfl,f,?_,?_,?_,?_,?_,λy z A=>d y (λk B _ C=>z k B C) A⟩
 ·rw[Kp];exact c _ _ q
 ·rw[Kp];exact c _ _ s
 ·rw[Kp];exact c _ _ t
 ·rw[Kp];exact c _ _ u
 rw[Kp];exact c _ _ x
theorem Ed.snoc{L g w xs rs}{rv:Value}{r:az}(h:Ed L g w xs rs)(l:jn L g w (.agg #[U r.1,U r.2.1,U r.2.2.1,rv,U r.2.2.2.2]) r)  :Ed L g w (xs++[U r.1,U r.2.1,U r.2.2.1,rv,U r.2.2.2.2]) (rs++[r]):=by
 obtain⟨d,m,n⟩:=h;refine⟨by simp[d];omega,λu f=>?_,λi o b=>?_⟩
 ·rcases KB.1 f with f|f
  ·exact m u f
  obtain⟨a,c,e,_⟩:=(l w (λ_ _ _ _=>rfl) lE).shape;simp at e;simp at f
  rcases f with rfl|rfl|rfl|rfl|rfl
  ·rfl
  ·rfl
  ·rfl
  ·rw[e];rfl
  rfl
 by_cases p:i<rs.length
 ·rw[Kh p] at b;have⟨j,q,s,t,v,x,y⟩:=n i o b;exact⟨j,by rw[Kh (by omega)];exact q,by rw[Kh (by omega)];exact s,by rw[Kh (by omega)];exact t,by rw[Kh (by omega)];exact v,by rw[Kh (by omega)];exact x,y⟩
 have k:i=rs.length:=by have:=(K9.1 b).1;simp at this;omega
 subst k;simp at b;subst b;exact⟨rv,by rw[Kk (by omega)];simp[d],by rw[Kk (by omega)];simp[d],by rw[Kk (by omega)];simp[d],by rw[Kk (by omega)];simp[d],by rw[Kk (by omega)];simp[d],l⟩
theorem sS(aO):fH aO []=([],0,0):=by unfold fH;rfl
theorem Ci(aO)(ts:List Bs):fH aO ([] :: ts)=([],0,0):=by unfold fH;rw[Io rfl]
theorem DC(aO){t:Bs}(ts:List Bs)(h:t≠[])(a:¬t.getLast?=some 10):fH aO (t :: ts)=([],0,8):=by unfold fH;rw[iO h,iO a]
theorem Ez(aO){t:Bs}(ts:List Bs)(h:t≠[])(a:t.getLast?=some 10)(b:¬(ch t.dropLast).2=0):fH aO (t :: ts)=([],0,(ch t.dropLast).2):=by unfold fH;rw[iO h,Io a,iO b]
theorem CB{t:Bs}(ts:List Bs)(h:t≠[])(a:t.getLast?=some 10)(b:(ch t.dropLast).2=0):fH 0 (t :: ts)=([],0,2):=by unfold fH;rw[iO h,Io a,Io b]
theorem Dn(m:Nat){t:Bs}(ts:List Bs)(h:t≠[])(a:t.getLast?=some 10)(b:(ch t.dropLast).2=0):fH (m+1) (t :: ts)=((ch t.dropLast).1 :: (fH m ts).1,t.length+(fH m ts).2.1,(fH m ts).2.2):=by
 conv=>lhs;unfold fH
 rw[iO h,Io a,Io b]
theorem sZ(u:ByteArray)(n:Nat)(a:n+1=u.size):(u.extract 0 n).1.1=u.1.1.dropLast:=by
 have b:u.1.1.length=n+1:=by rw[<-KR];exact a.symm
 rw[List.dropLast_eq_take,b,M8];rw[Mn];simp
theorem nI{L w w' v r}(h:gi L w v r)(a:bL w w'):gi L w' v r:=λc d e=>h c (λg f b=>(d g f (Kd b a.size)).trans (a.block g b)) (Kl a.size e)
theorem IB{n u i N a aO:Nat}(b:n<=i*60000)(c:i<N)(d:N<=60001)(e:u<=60000)(f:a<=40)(g:a<aO):IntKind.i64.wrap ((n:Int)+(u:Int))=(n:Int)+(u:Int)/\IntKind.i64.wrap ((i:Int)+1)=(i:Int)+1/\a+1<=9223372036854775807/\(a+1)*56<=140737488355328/\i+1<=N/\n+u<=(i+1)*60000/\a+1<=aO:=by
 refine⟨?_,?_,by omega,by omega,by omega,by omega,by omega⟩
 ·exact KA _ (by omega)
 exact KA _ (by omega)
theorem HH{i N:Nat}(a:i<N):N-(i+1)<N-i:=by omega
theorem so:∃i,prog.info? 70=some i/\i.zero=some (.agg #[U 0,U 0,U 0,nL,U 0])/\i.size=5/\i.bytes=56:=jL (by kernel_rfl)
theorem sT(s:ByteArray)(V:s.size<=60000)(aO:Nat)(b4:aO<=40)(w)(P:dD w):
  cL 46 #[.string s,U aO] w λe d=>∃v,e=.returned (.tuple #[v,U (aM aO s.1.1).2.1,U (aM aO s.1.1).2.2])/\qt w.1.size d v (aM aO s.1.1).1/\bL w d:=by
 obtain⟨e5,c9,ca,cb,cc⟩:=so;have HE:=Z λd (h:bL w d)=>P.l h
 obtain⟨mm,hm⟩:=P.1;have⟨ws,z,a5,b6,b7⟩:=vD s V;have A:Hid _:=b7 mm w hm;have cd:=Z b6;have HM:=Z z;have b8:=Z (by rw[z];rfl:aM aO s.1.1=fH aO (ws.map (λp:ByteArray=>p.1.1)));have⟨B,a6⟩:=nM (ws.map (λp:ByteArray=>p.1.1));have a7:=Z a6;rw[<-a6] at b8;clear b7 z b6 hm P a6 HM;have⟨N,hN⟩:=nM (ws.length);have HN:=Z hN.symm;rw[<-hN] at a5 A;clear hN;have b9:=ai;go_enter func46,ntmps46;go_wp2_with fail;go_at_call 75;refine Calls.mono A.o ?_;rintro e w1 ⟨SB,e9,rfl,ci,ck,ba,bb,W,C⟩;have cl:Hid (∀d,bL w1 d->∀j u,ws[j]?=some u->d.cell? ⟨SB,j,none⟩=some (.string u)):=λd h j u M=>(h.cell (p:=⟨SB,j,none⟩) W).trans (C j u M)
 have x:=Z ba;clear C A ba;go_wp2_with fail;go_loopw [7,8,16] (λlv nv iv wr=>∃ (i n:Nat) (a:List az) (xs:List Value),i<=N/\a.length<=aO/\n<=i*60000/\iv=U i/\nv=U n/\Hid (aM aO s.1.1=(a++(fH (aO-a.length) (B.drop i)).1,n+(fH (aO-a.length) (B.drop i)).2.1,(fH (aO-a.length) (B.drop i)).2.2))/\Hid (wr.ownsRow w1.1.size 70 5 lv a.length xs)/\Hid (Ed w1.1.size lv.ownBlock wr xs a)/\Hid (bL w1 wr)) (λ_ _ iv _=>N-(intOf iv).toNat)
 case atStart=>exact⟨0,0,[],[],by omega,by simp,by omega,rfl,rfl,by unfold Hid;rw[b8.o];simp,⟨rfl,.inl ⟨rfl,rfl⟩⟩,⟨rfl,(λu M=>by cases M),(λi r hr=>by simp at hr)⟩,Kf _ _⟩
 case round=>
  obtain⟨i,n,a,xs,hi,hd,hn,rfl,rfl,O,D,Q,HB⟩:=hrel;have⟨wo,co⟩:=nM (wr);subst co;have i0:(0:Int)<=(i:Int):=by omega
  have a9:=HB.o.size;obtain⟨va,vc,ev,bf,cp,-⟩:=an D.o;subst ev;have R:=Z (x.o.th HB.o)
  by_cases S:i<N
  ·have i1:(i:Int)<(N:Int):=by omega
   obtain⟨u,M⟩:∃u,ws[i]?=some u:=⟨ws[i]'(by rw[HN.o];omega),by simp⟩;have aa:=cd.o u (Kb M)
   have g:Hid (B.drop i=u.1.1 :: B.drop (i+1)):=by
    unfold Hid;have X:i<B.length:=by rw[a7.o,Lw,HN.o];exact S
    rw[KM X];congr 1;have:B[i]?=some u.1.1:=by rw[a7.o,Ku,M];rfl
    rw[Lu X] at this;exact KG this
   have x0:=cl.o wo HB.o i u M;have bg:SB<wo.1.size:=by omega
   have l:=Z ((KR u).symm)
   by_cases hz:u.size=0
   ·have cs:u=⟨#[]⟩:=by apply ByteArray.ext;apply LP;exact hz
    subst cs;have q:Hid (aM aO s.1.1=(a,n,0)):=by unfold Hid;rw[O.o,g.o];rw[show ((⟨#[]⟩:ByteArray).1.1)=[] from rfl,Ci];simp
    have F:=Z ((uQ D.o Q.o).mono x.o.size);clear O g D Q hz aa M l;generalize a.length=y at*;go_wp2_with fail;go_ret3;exact⟨_,by rw[q.o];rfl,by rw[q.o];exact F.o,R.o⟩
   have T:u.1.1≠[]:=λe=>hz (by rw[<-l.o,e];rfl)
   have cv:(u.toList==[])=false:=by rw[ML];simpa using T
   have cx:¬u.toList=[]:=by rw[ML];exact T
   have G:Hid (cL 76 #[.string u,.string ⟨#[10]⟩] wo λe d=>e=.returned (.bool (decide (u.1.1.getLast?=some 10)))/\d=wo):=by have h:=Tryz.strings_HasSuffix u ⟨#[10]⟩ wo (by omega);rw[show ((⟨#[10]⟩:ByteArray).1.1)=[10] from rfl,Fl] at h;exact h
   have H:=Z T;clear T
   by_cases m:u.1.1.getLast?=some 10
   case neg=>
    rw[KD m] at G;have q:Hid (aM aO s.1.1=(a,n,8)):=by unfold Hid;rw[O.o,g.o,DC _ _ H.o m];simp
    have F:=Z ((uQ D.o Q.o).mono x.o.size);clear O g D Q M m l;generalize a.length=y at*;go_wp2_with fail;go_at_call 76;refine Calls.mono G.o ?_;rintro e w2 ⟨rfl,rfl⟩;go_wp2_with fail;go_ret3;exact⟨_,by rw[q.o];rfl,by rw[q.o];exact F.o,R.o⟩
   rw[KS m] at G;obtain⟨k,hk⟩:∃k,k+1=u.size:=⟨u.size-1,by omega⟩;have o:=sZ u k hk
   have I:Hid (∀d,bL w d->cL 77 #[.string (u.extract 0 k)] d λe bk=>∃v,e=.returned (.tuple #[v,U (ch u.1.1.dropLast).2])/\gi d.1.size bk v (ch u.1.1.dropLast).1/\bL d bk):=λd h=>by
    have cT:(u.extract 0 k).size<=60000:=by rw[KR,o,List.length_dropLast];have:=l.o;omega
    have:=Bi (u.extract 0 k) cT d (HE.o d h);rw[o] at this;exact this
   have bm:(u.size:Int)-1=(k:Int):=by omega
   have d0:(0:Int)<=(k:Int):=by omega
   have d1:(k:Int)<=(u.size:Int):=by omega
   have⟨uu,ac⟩:=nM (u.extract 0 k);have d2:∀d,(Instr.slice 9 (.string u) none (some (U (k:Int))) none).run prog d=.ok (.string uu) d:=λd=>by rw[ac];go_simp
   rw[<-ac] at I;have f:Hid (¬(ch u.1.1.dropLast).2=0->aM aO s.1.1=(a,n,(ch u.1.1.dropLast).2)):=λP=>by rw[O.o,g.o,Ez _ _ H.o m P];simp
   have b:Hid ((ch u.1.1.dropLast).2=0->aO=a.length->aM aO s.1.1=(a,n,2)):=λP hm=>by rw[O.o,g.o,hm,Nat.sub_self,CB _ H.o m P];simp
   have c:Hid ((ch u.1.1.dropLast).2=0->a.length<aO->aM aO s.1.1=((a++[(ch u.1.1.dropLast).1])++(fH (aO-(a++[(ch u.1.1.dropLast).1]).length) (B.drop (i+1))).1,(n+u.size)+(fH (aO-(a++[(ch u.1.1.dropLast).1]).length) (B.drop (i+1))).2.1,(fH (aO-(a++[(ch u.1.1.dropLast).1]).length) (B.drop (i+1))).2.2)):=λP hm=>by rw[O.o,g.o,show aO-a.length=(aO-(a++[(ch u.1.1.dropLast).1]).length)+1 by simp;omega,Dn _ _ H.o m P,l.o];simp;omega
   have⟨RR,bo⟩:=nM (ch u.1.1.dropLast);rw[<-bo] at I f b c;clear bo o ac O g m H M hk;obtain⟨⟨x1,x2,x3,xr,x4⟩,E⟩:=RR;simp only[] at I f b c;have⟨y,o⟩:=nM (a.length);have al:=Z o.symm
   rw[<-o] at D Q bf hd b c |-
   clear o;go_wp2_with fail;go_at_call 76;refine Calls.mono G.o ?_;rintro e ek ⟨rfl,bp⟩;rw[bp];clear bp;go_wp2_with fail;go_at_call 77;refine Calls.mono (I.o _ R.o) ?_;rintro e w2 ⟨v2,rfl,J,ao⟩;obtain⟨ra,rc,er,-⟩:=J.at.shape;subst er
   simp only[] at J |-
   have⟨rn,bq⟩:=nM (xr.length)
   rw[<-bq] at J |-
   have d3:=ao.size;have⟨W3,K⟩:=nM (w2.alloc (.cells #[U x1,U x2,U x3,.slice ra rn rc,U x4] 70));have av:=bA K;have t:=ao.th av;have bs:=Z (aw D.o t);have bv:=Z (Q.o.l t);have d4:Hid (jn w1.1.size (Value.slice va y vc).ownBlock W3 (.agg #[U x1,U x2,U x3,.slice ra rn rc,U x4]) (x1,x2,x3,xr,x4)):=jn.of_new (nI J av) a9 λk hk=>by have⟨em,hc⟩:=cX D.o k hk;exact io hc
   have b0:=Z (Below.tO HB.o t a9);have Y:=Z (x.o.th b0.o);have g3:=hA K;have⟨g0,g1,g2,eq,g4⟩:=aF g3;have bx:=b0.o.size;have e3:=sA K;have b1:=Z K;have a0:Hid (qt w.1.size W3 (.slice va y vc) a):=(uQ (by rw[al.o];exact bs.o) bv.o).mono x.o.size;clear K av t J bq g3 ao d3 D Q HB x0 d2 I G
   by_cases hE:E=0
   case neg=>
    have es:(E==0)=false:=by simpa using hE
    have e4:(E != 0)=true:=by simpa using hE
    have q:=Z (f.o hE);clear hE f b c;go_wp2_with fail;rw[<-b1.o];go_ret3;exact⟨_,by rw[q.o];rfl,by rw[q.o];exact a0.o,Y.o⟩
   subst hE
   by_cases b2:aO=y
   ·have q:Hid (aM aO s.1.1=(a,n,2)):=b.o rfl b2;have d5:(aO:Int)<=(y:Int):=by omega
    clear f b c;go_wp2_with fail;rw[<-b1.o];go_ret3;exact⟨_,by rw[q.o];rfl,by rw[q.o];exact a0.o,Y.o⟩
   have L:y<aO:=by omega
   have d5:¬((aO:Int)<=(y:Int)):=by omega
   have d6:Hid _:=c.o rfl L;obtain⟨et,eu,a1,bF,a2,a3,a4⟩:=IB hn S a5 aa (by omega:y<=40) L;have HA:Hid (y+1<=maxLen/\(y+1)*56<=140737488355328/\w1.1.size<=W3.1.size):=⟨by rw[b9];exact a1,bF,bx⟩;have c0:=Z4 a2 a3 a4 S;clear a1 a2 a3 a4 bF bx;clear f b c bm d0 d1 cv cx hz hn hd bf cp aa L b4 a5 ci ck bb W bg a9 V hi S b9
   go_wp2_with (first
    |(at_builtin;rw[<-b1.o];go_must (refine gy _ rfl _ _ rfl Tryz.underlying52 c9 ca cb cc rfl (by decide) w1.1.size _ _ _ rfl _ 1 [U x1,U x2,U x3,.slice ra rn rc,U x4] rfl W3 rfl (by first|rfl|omega) W3 bR bs.o rfl (by simp[Value.oneCell']) HA.o.1 HA.o.2.1 HA.o.2.2 ?_;intro v9 w9 dc c1 dd de;have df:Hid _:=c1;clear c1)))
   obtain⟨di,dk,dn,dp⟩:=c0.o;refine⟨⟨i+1,n+u.size,a++[(x1,x2,x3,xr,x4)],xs++[U x1,U x2,U x3,.slice ra rn rc,U x4],di,by rw[Kj,al.o];exact dn,dk,by go_num,by simp,d6,?_,?_,b0.o.trans df.o⟩,by simp[intOf];exact HH dp⟩
   ·unfold Hid;rw[Kj,al.o];exact dc.o
   exact(bv.o.snoc (r:=(x1,x2,x3,xr,x4)) d4.o).grown dd.o de.o
  have e:i=N:=by omega
  subst e;have q:Hid (aM aO s.1.1=(a,n,0)):=by unfold Hid;have:B.drop i=[]:=LG (by rw[a7.o,Lw,HN.o];exact Ke _);rw[O.o,this,sS];simp
  have F:=Z ((uQ D.o Q.o).mono x.o.size);have i1:¬((i:Int)<(i:Int)):=by omega
  clear O D Q;generalize a.length=y at*;go_wp2_with fail;go_ret3;exact⟨_,by rw[q.o];rfl,by rw[q.o];exact F.o,R.o⟩
theorem Ca(s:ByteArray)(a:s.size<=60000)(aO:Nat)(b:aO<=40)(w)(d:dD w):
  cL 46 #[.string s,U aO] w λe c=>∃v,e=.returned (.tuple #[v,U (aM aO s.1.1).2.1,U (aM aO s.1.1).2.2])/\dh c.1.size c v (aM aO s.1.1).1/\bL w c:=
 (sT s a aO b w d).mono λ_ _ ⟨v,f,g,h⟩=>⟨v,f,g.recs,h⟩
def aI(B:Nat)(w:World)(v:Value)(bs:Bs):Prop:=
 ∃a c,v=.slice a bs.length c/\bs.length<=c/\c<=maxLen/\∀ (i:Nat) b,bs[i]?=some b->∃g o,a=some ⟨g,o,none⟩/\g<B/\w.cell? ⟨g,o+i,none⟩=some (.int .u8 (b.toNat:Int))
theorem aI.l{B B' w w' v bs}(h:aI B w v bs)(d:Below B' w w')(r:B<=B'):aI B w' v bs:=by obtain⟨a,c,f,j,l,m⟩:=h;refine⟨a,c,f,j,l,λi b n=>?_⟩;have⟨g,o,e,q,k⟩:=m i b n;exact⟨g,o,e,q,(d.cell (p:=⟨g,o+i,none⟩) (by show g<B';omega)).trans k⟩
theorem aI.wide{B d:Nat}{w v bs}(h:aI B w v bs)(p:B<=d):aI d w v bs:=by obtain⟨a,c,f,j,l,m⟩:=h;refine⟨a,c,f,j,l,λi b n=>?_⟩;have⟨g,o,e,q,k⟩:=m i b n;exact⟨g,o,e,by omega,k⟩
theorem aI.take{B w a n c bs}(h:aI B w (.slice a n c) bs)(m:Nat)(d:m<=bs.length):aI B w (.slice a m c) (bs.take m):=by
 obtain⟨j,k,e,l,f,g⟩:=h;simp at e;obtain⟨rfl,rfl,rfl⟩:=e;refine⟨a,c,by rw[Kt,MJ d],by rw[Kt];omega,f,λi r b=>?_⟩;rw[LO] at b
 split at b
 ·exact g i r b
 cases b
abbrev bQ:=Bs × Bs
def cJ(B:Nat)(w:World)(v:Value)(d:bQ):Prop:=∃a b,v=.agg #[a,b]/\aI B w a d.1/\aI B w b d.2
theorem cJ.l{B B' w w' v d}(h:cJ B w v d)(a:Below B' w w')(b:B<=B'):cJ B w' v d:=by obtain⟨c,e,f,g,i⟩:=h;exact⟨c,e,f,g.l a b,i.l a b⟩
theorem iz{B w v bs}(h:aI B w v bs):(convert 23 9 v).run prog w=.ok (.string ⟨bs.toArray⟩) w:=by
 obtain⟨a,c,rfl,n,p,f⟩:=h
 cases a with
 |none=>
  have d:bs=[]:=by
   cases bs with
   |nil=>rfl
   |cons r l=>have⟨b,o,e,_⟩:=f 0 r rfl;cases e
  subst d;exact run_convert_bytes_nil (w:=w) 23 5 Tryz.underlying23 Tryz.underlying5 0 c 9 Tryz.underlying9
 |some i=>
  by_cases d:bs=[]
  ·subst d;exact run_convert_bytes_back w 23 9 5 i c [] Tryz.underlying23 Tryz.underlying5 Tryz.underlying9 (λj m=>by simp at m)
  obtain⟨g,o,e⟩:∃g o,i=⟨g,o,none⟩:=by
   cases bs with
   |nil=>exact absurd rfl d
   |cons r l=>
    have⟨b,o,e,_⟩:=f 0 r rfl;exact⟨b,o,KG e⟩
  subst e;refine run_convert_bytes_back w 23 9 5 _ c bs Tryz.underlying23 Tryz.underlying5 Tryz.underlying9 (λj m=>?_);obtain⟨q,s,e,_,k⟩:=f j bs[j] (by simp);simp at e;obtain⟨rfl,rfl⟩:=e;rw[eM];exact k
def aB(d:bQ):Int:=if 60000<d.1.length\/60000<d.1.length+d.2.length then 2 else (aM 40 d.1).2.2
theorem qy(B v d w)(F:dD w)(L:cJ B w v d)(M:B<=w.1.size):
  cL 18 #[v] w (rT w (U (aB d))):=by
 obtain⟨N,O,rfl,y,G⟩:=L;obtain⟨s,t⟩:=d;simp only[] at y G;have⟨z,g⟩:=nM (w.alloc (.cells #[N,O] 25));have i:=bA g;have j:=iz (y.l i M)
 have h:Hid (s.length<=60000->cL 46 #[.string ⟨s.toArray⟩,U 40] z λe H=>∃v,e=.returned (.tuple #[v,U (aM 40 s).2.1,U (aM 40 s).2.2])/\bL z H):=λP=>(Ca ⟨s.toArray⟩ (by rw[KR];simpa using P) 40 (by omega) z (F.l i)).mono λe H ⟨v,A,_,Q⟩=>⟨v,A,Q⟩
 have f:Hid (aB (s,t)=if 60000<s.length\/60000<s.length+t.length then 2 else (aM 40 s).2.2):=rfl;obtain⟨a,c,R,-,-,-⟩:=y;obtain⟨b,W,S,-,-,-⟩:=G;subst R S;have⟨n,I⟩:=nM (s.length);have⟨m,J⟩:=nM (t.length)
 rw[<-I] at g j h f |-
 rw[<-J] at g f |-
 have⟨X,p⟩:=nM ((aM 40 s).2.1);have⟨T,k⟩:=nM ((aM 40 s).2.2);rw[<-p,<-k] at h;rw[<-k] at f;have q:Hid _:=j;have l:=Z g;have o:=Z i;obtain⟨K,r⟩:∃K:ByteArray,K=⟨s.toArray⟩:=⟨_,rfl⟩;rw[<-r] at q h;clear I J p k j g i F r
 by_cases A:60000<n
 ·have u:=Z (by rw[f.o,Io (.inl A)]:aB (s,t)=2);have C:(60000:Int)<(n:Int):=by omega
  go_enter func18,ntmps18;go_wp2_with fail;rw[<-l.o];go_ret;exact⟨by rw[u.o];rfl,o.o⟩
 have C:¬((60000:Int)<(n:Int)):=by omega
 by_cases V:60000<n+m
 ·have u:=Z (by rw[f.o,Io (.inr V)]:aB (s,t)=2);have D:(60000:Int)-(n:Int)<(m:Int):=by omega
  go_enter func18,ntmps18;go_wp2_with fail;rw[<-l.o];go_ret;exact⟨by rw[u.o];rfl,o.o⟩
 have u:=Z (by rw[f.o,iO (by omega)]:aB (s,t)=T);have D:¬((60000:Int)-(n:Int)<(m:Int)):=by omega
 have x:Hid _:=h.o (by omega);clear h;go_enter func18,ntmps18;go_wp2_with fail;rw[<-l.o,q.o];go_wp2_with fail;go_at_call 46;refine Calls.mono x.o ?_;rintro e Y ⟨v2,rfl,E⟩;go_wp2_with fail;go_ret;exact⟨by rw[u.o];rfl,o.o.th E⟩
theorem p7(B cv dv cs ds w)(R:aI B w cv cs)(F:aI B w dv ds)(hB:B<=w.1.size):
  cL 62 #[cv,dv] w (rT w (.bool (decide (cs=ds)))):=by
 obtain⟨a,S,rfl,T,V,y⟩:=R;obtain⟨a2,K,rfl,z,L,A⟩:=F;have C:=Z y;have D:=Z A;clear y A
 by_cases j:cs.length=ds.length
 ·generalize hn:cs.length=n at*;have M:=j.symm;clear j;rw[M] at z;simp only[M];have W:n<=9223372036854775807:=by have:=ai;omega
  go_enter func62,ntmps62;go_wp2;go_loopw [13] (λi wr=>∃k:Nat,k<=n/\i=U k/\Hid (∀i,i<k->cs[i]?=ds[i]?)/\bL w wr) (λi _=>n-(intOf i).toNat)
  case atStart=>exact⟨0,by omega,rfl,λi h=>absurd h (by omega),Kf _ _⟩
  case round=>
   obtain⟨k,hk,rfl,H,f⟩:=hrel;have i0:(0:Int)<=(k:Int):=by omega
   by_cases X:k<n
   ·have i1:(k:Int)<(n:Int):=by omega
    obtain⟨c,s⟩:∃c,cs[k]?=some c:=⟨cs[k]'(by omega),by simp⟩;obtain⟨d,t⟩:∃d,ds[k]?=some d:=⟨ds[k]'(by omega),by simp⟩;obtain⟨b,o,rfl,Y,E⟩:=C.o k c s;obtain⟨G,N,rfl,O,l⟩:=D.o k d t;have q:=Z s;have r:=Z t;clear s t;have c0:=(f.cell (p:=⟨b,o+k,none⟩) (by show b<_;omega)).trans E;have d0:=(f.cell (p:=⟨G,N+k,none⟩) (by show G<_;omega)).trans l;clear E l;go_wp2;have a3:=f.size;have j:=ax.ne wr;have a4:∀x:ax wr,x.1.cell? ⟨b,o+k,none⟩=some (.int .u8 (c.toNat:Int)):=λx=>x.cell c0 (by omega)
    have a5:∀x:ax wr,x.1.cell? ⟨G,N+k,none⟩=some (.int .u8 (d.toNat:Int)):=λx=>x.cell d0 (by omega)
    by_cases g:c=d
    ·have u:=Z g;have F:((c.toNat:Int) != (d.toNat:Int))=false:=by simp[g]
     clear g;refine aW (by kernel_rfl) (by kernel_rfl) ?_;repeat(go_big_quiet_step (fail))
     refine Km ?_;rintro wx ⟨⟨_,I⟩,rfl⟩;have v:=f.th I;go_wp2;refine⟨⟨k+1,by omega,by go_num,λi P=>?_,v⟩,by simp[intOf];omega⟩
     by_cases J:i=k
     ·subst J;rw[q.o,r.o,u.o]
     exact H.o i (by omega)
    have u:=Z g;have F:((c.toNat:Int) != (d.toNat:Int))=true:=by refine bne_iff_ne.2 λe=>g (MH.1 (by omega))
    clear g;refine aW (by kernel_rfl) (by kernel_rfl) ?_;repeat(go_big_quiet_step (fail))
    refine Km ?_;rintro wx ⟨⟨_,I⟩,rfl⟩;have v:=f.th I;go_wp2;go_ret;refine⟨?_,v⟩;have:cs≠ds:=by intro h;have Q:=q.o;rw[h,r.o] at Q;exact u.o (KG Q).symm
    simp[this]
   go_wp2;go_ret;refine⟨?_,f⟩
   have:cs=ds:=by
    refine LD λi=>?_
    by_cases P:i<k
    ·exact H.o i P
    rw[KP (by omega),KP (by omega)]
   simp[this]
 have a7:((cs.length:Int) != (ds.length:Int))=true:=by simp;omega
 have hf:=Z (by simp;intro h;rw[h] at j;exact j rfl:decide (cs=ds)=false);generalize cs.length=n at*;generalize ds.length=m at*;go_enter func62,ntmps62;go_wp2;go_ret;exact⟨by rw[hf.o];rfl,Kf _ _⟩
theorem zX(B v u d e w)(X:cJ B w v d)(Y:cJ B w u e)(o:B<=w.1.size):
  cL 31 #[v,u] w λr i=>r=.returned (.bool (decide (d=e)))/\bL w i:=by
 obtain⟨s,t⟩:=d;obtain⟨j,k⟩:=e;obtain⟨sv,tv,rfl,A,C⟩:=X;obtain⟨D,E,rfl,f,l⟩:=Y;simp only[] at A C f l;have S:=Z λi (h:bL w i)=>p7 B sv D s j i (A.l h o) (f.l h o) (h.u o)
 have T:=Z λi (h:bL w i)=>p7 B tv E t k i (C.l h o) (l.l h o) (h.u o)
 obtain⟨a,c,e1,-⟩:=A;obtain⟨F,G,e2,-⟩:=C;obtain⟨H,I,e3,-⟩:=f;obtain⟨J,K,e4,-⟩:=l;subst e1 e2 e3 e4;have p:=Z (by simp:decide (((s,t):bQ)=(j,k))=(decide (s=j)&&decide (t=k)));have⟨b1,q⟩:=nM (decide (s=j));have⟨b2,x⟩:=nM (decide (t=k));rw[<-q] at S p;rw[<-x] at T p;clear q x;generalize s.length=L at*;generalize t.length=M at*;generalize j.length=N at*;generalize k.length=O at*;have⟨P,b⟩:=nM ((w.alloc (.cells #[.slice a L c,.slice F M G] 25)).alloc (.cells #[.slice H N I,.slice J O K] 25));have y:=bB b;have f:=sB b;have V:Na P w.1.size #[.slice a L c,.slice F M G] 25:=by rw[b];exact(Kq _ _ _ (by simp)).trans (ah _ _)
 have W:Na P (w.1.size+1) #[.slice H N I,.slice J O K] 25:=by have:=ah (w.alloc (.cells #[.slice a L c,.slice F M G] 25)) (.cells #[.slice H N I,.slice J O K] 25);rw[Kg] at this;rw[b];exact this
 have Q:=Z b;have z:=Z y;clear b y;go_enter func31,ntmps31;go_wp2_with fail;rw[<-Q.o];go_at_call 62;refine(S.o P z.o).mono ?_;rintro e w3 ⟨rfl,g⟩;have k0:=J1 ((g.block w.1.size (by omega)).trans V);have k1:=J1 ((g.block (w.1.size+1) (by omega)).trans W);have m:=Z (z.o.th g);clear g V W
 cases b1 with
 |false=>
  have n:=Z (by rw[p.o];rfl:decide (((s,t):bQ)=(j,k))=false);clear p;go_wp2_with fail;go_ret;exact⟨by rw[n.o];rfl,m.o⟩
 |true=>
  have n:=Z (by rw[p.o];rfl:decide (((s,t):bQ)=(j,k))=b2);clear p;go_wp2_with fail;go_at_call 62;refine(T.o w3 m.o).mono ?_;rintro e w4 ⟨rfl,R⟩;go_wp2_with fail;go_ret;exact⟨by rw[n.o];rfl,m.o.th R⟩
theorem mo:∃i,prog.info? 5=some i/\i.zero=some (.int .u8 0)/\i.size=1/\i.bytes=1:=jL (by kernel_rfl)
def dz(l:Bs):List Value:=l.map λb=>.int .u8 (b.toNat:Int)
theorem oS(l m:Bs):dz (l++m)=dz l++dz m:=by unfold dz;exact List.map_append
theorem li(l):(dz l).length=l.length*1:=by unfold dz;simp
theorem ue(l):∀u∈dz l,u.oneCell'=true:=by intro u a;obtain⟨x,_,rfl⟩:=Md.1 a;rfl
theorem rD{w:World}{b:Nat}(l:Bs)(o:Nat)(h:∀ (i:Nat) c,l[i]?=some c->w.cell? ⟨b,o+i,none⟩=some (.int .u8 (c.toNat:Int))):∀j u,(dz l)[j]?=some u->w.cell? ⟨b,o+j,none⟩=some u:=by
 intro j u a;unfold dz at a;rw[Ku] at a
 cases hc:l[j]? with
 |none=>rw[hc] at a;cases a
 |some c=>
  rw[hc] at a
  cases a;exact h j c hc
theorem pk{L:Nat}{w:World}{v:Value}{l:Bs}(h:w.ownsRow L 5 1 v l.length (dz l)):aI w.1.size w v l:=by obtain⟨a,c,rfl,f,j,k⟩:=an h;refine⟨a,c,rfl,f,j,λi b e=>?_⟩;have n:i<l.length:=(K9.1 e).1;obtain⟨g,rfl,m,d⟩:=k (by omega);refine⟨g,0,rfl,d,?_⟩;rw[Kp];exact aK h i _ (by unfold dz;rw[Ku,e];rfl)
theorem aI.full{B w v l}(h:aI B w v l):∃a b,v=.slice a l.length b/\l.length<=b/\b<=maxLen:=by obtain⟨a,b,c,d,e,_⟩:=h;exact⟨a,b,c,d,e⟩
theorem my(B base:Nat)(H:TypeId)(v sv:Value)(n:Nat)(xs:List Value)(rs)(W:World)(d:W.ownsRow base 5 1 v n xs)(K:aI B W sv rs)(L:(n+rs.length)*1<=140737488355328)(f:base<=W.1.size):
  ∃x s,(Builtin.append_ #[23,23] H #[v,sv]).run prog W=.ok x s/\s.ownsRow base 5 1 x (n+rs.length) (xs++dz rs)/\Below base W s:=by
 obtain⟨t,m,z,A,C⟩:=mo;obtain⟨a,w,rfl,M,N,p⟩:=K
 cases a with
 |none=>
  have O:rs=[]:=by
   cases rs with
   |nil=>rfl
   |cons r l=>have⟨b,o,e,_⟩:=p 0 r rfl;cases e
  subst O;refine⟨v,W,?_,by simpa [dz] using d,Kf _ _⟩
  have D:v=nL\/∃g c,v=.slice (some g) n c/\n<=c:=by
   rcases d.2 with ⟨h,_⟩|⟨g,c,E,h,_,_,Q,_⟩
   ·exact .inl h
   exact .inr ⟨_,c,h,Q⟩
  have I:=Lk (P:=prog) W t.size 0 0 w
  rcases D with rfl|⟨g,c,rfl,F⟩
  ·simp[Builtin.append_,KY Tryz.underlying23,sizeOf,typeInfo,m,Builtin.lenOf,I]
  simp[Builtin.append_,KY Tryz.underlying23,sizeOf,typeInfo,m,Builtin.lenOf,I,F,storeCells]
 |some J=>
  have q:∀j u,(dz rs)[j]?=some u->W.cell? (J.add j)=some u:=by
   cases rs with
   |nil=>intro j u G;simp[dz] at G
   |cons r l=>
    have⟨b,o,e,_,_⟩:=p 0 r rfl
    cases e;intro j u G;rw[eM];refine rD (r :: l) o (λi c D=>?_) j u G;have⟨V,X,e,_,k⟩:=p i c D
    cases e;exact k
  obtain⟨x,s,R,S,T,Y⟩:=LB (P:=prog) W base 23 H 5 t _ 1 1 Tryz.underlying23 m z A C rfl (by decide) v n xs d J rs.length w (dz rs) (li rs) q (ue rs) (by rw[ai];omega) L f;refine⟨x,s,R,S,bR.grown T f λk y=>?_⟩
  rcases d.2 with ⟨h,_⟩|⟨g,c,E,h,hg,_⟩
  ·rw[h] at y;simp[Value.ownBlock] at y
  rw[h] at y;simp[Value.ownBlock] at y;omega
theorem Fj(n:Nat)(w)(u:n*1<=140737488355328):
  cL 78 #[nL,U n] w λe q=>∃v,e=.returned v/\q.ownsRow w.1.size 5 1 v 0 []/\bL w q:=by
 have j:=ai
 by_cases r:n=0
 ·subst r;go_enter func78,ntmps78;go_wp2;go_ret;exact⟨_,rfl,⟨rfl,.inl ⟨rfl,rfl⟩⟩,Kf _ _⟩
 obtain⟨b,k,c,s,d⟩:=mo;have x:¬((n:Int)<0):=by omega
 have y:(n:Int)>0:=by omega
 have⟨G,i⟩:=nM (grownCap w n 0 5);have t:n<=G:=by rw[i];exact grownCap_ge w _ _ _
 have a:G<=maxLen:=by rw[i];exact Mm w n 0 _ (by omega)
 obtain⟨z,l⟩:∃z:Value,z=.int .u8 0:=⟨_,rfl⟩;have m:z.cells.size=1:=by rw[l];rfl
 rw[<-l] at c
 have o:∀p,(Builtin.append_ #[23,3] p #[nL,U n]).run prog w=
   .ok (.slice (MZ w) n G) (w.drew.alloc (.cells ((Builtin.zeroCells z.cells n)++Builtin.zeroCells z.cells (G-n)) 5)):=λp=>by
  have h:=Ma w 23 3 p 5 b z .i64 .i64 Tryz.underlying23 Tryz.underlying3 k c none 0 0 [] (Lk w.drew b.size 0 0 0) n (by omega) (by omega) (by omega) (by omega)
   (by rw[d];omega)
   (by rw[Kp];exact MV (by omega) (by rw[d];omega))
  simpa [<-i] using h
 have f:Hid ((w.drew.alloc (.cells ((Builtin.zeroCells z.cells n)++Builtin.zeroCells z.cells (G-n)) 5)).ownsRow w.1.size 5 1 (.slice (MZ w) 0 G) 0 []):=by refine⟨rfl,.inr ⟨w.1.size,G,_,rfl,Ke _,(Kr w.drew _).1,Ks _,a,?_,by simp⟩⟩;rw[MX,M7,M7,m,<-Mi];congr 1;omega
 have g:Hid (bL w (w.drew.alloc (.cells ((Builtin.zeroCells z.cells n)++Builtin.zeroCells z.cells (G-n)) 5))):=bR.drew.alloc lE _;clear i l;rw[j] at a;generalize (Builtin.zeroCells z.cells n)++Builtin.zeroCells z.cells (G-n)=A at*;go_enter func78,ntmps78;go_wp2_with (at_builtin;refine Kw _ rfl _ _ _ _ rfl _ _ rfl rfl _ _ (o _) ?_);go_ret;exact⟨_,rfl,f.o,g.o⟩
theorem pq(B v0 v1 r0 r1)(bs:Nat)(w)(E:aI B w v0 r0)(n:aI B w v1 r1)(M:B<=w.1.size)(s:bs<w.1.size)(t:w.cell? (pA bs 0)=some v0)(u:w.cell? (pA bs 1)=some v1)(Q:(r0.length+r1.length)*1<=140737488355328):
  cL 47 #[.slice (sO bs) 2 2] w λe f=>∃v,e=.returned v/\f.ownsRow w.1.size 5 1 v (r0++r1).length (dz (r0++r1))/\bL w f:=by
 have R:=Z E;have S:=Z n;obtain⟨T,x,F,N,_⟩:=E.full;obtain⟨V,y,G,O,_⟩:=n.full;have W:=Z F;have X:=Z G;rw[F] at t;rw[G] at u
 have Y:Hid (∀f,bL w f->f.cell? (pA bs 0)=some (.slice T r0.length x)/\f.cell? (pA bs 1)=some (.slice V r1.length y)):=λf h=>⟨(h.cell (p:=pA bs 0) s).trans t,(h.cell (p:=pA bs 1) s).trans u⟩
 clear F G E n;generalize z:r0.length=l at*;generalize A:r1.length=m at*;have C:=Z z;have H:=Z A;clear z A;go_enter func47,ntmps47;go_wp2;go_loop [3,11] (λsz i=>∃k:Nat,k<=2/\i=U k/\sz=U (if k=0 then 0 else if k=1 then (l:Int) else ((l:Int)+m))) (λ_ i=>2-(intOf i).toNat)
 case atStart=>exact⟨0,by omega,rfl,rfl⟩
 case round=>
  obtain⟨k,hk,rfl,rfl⟩:=hrel;have o:k=0\/k=1\/k=2:=by omega
  rcases o with rfl|rfl|rfl
  ·go_wp2;exact⟨⟨1,by omega,rfl,by simp⟩,by simp[intOf]⟩
  ·have P:¬((l:Int)+(m:Int)<0):=by omega
   have a4:wrap64 ((l:Int)+(m:Int))=(l:Int)+m:=by unfold wrap64;omega
   go_wp2;exact⟨⟨2,by omega,rfl,by simp⟩,by simp[intOf]⟩
  have hG:Hid (∀f,cL 78 #[nL,U ((l:Int)+m)] f λe D=>∃v,e=.returned v/\D.ownsRow f.1.size 5 1 v 0 []/\bL f D):=λf=>by have:=Fj (l+m) f Q;rw[show ((l+m:Nat):Int)=(l:Int)+m by omega] at this;exact this
  go_wp2_with fail;go_at_call 78;refine(hG.o _).mono ?_;rintro e w1 ⟨v,rfl,j,I⟩;have HO:=Z j;clear j;go_wp2_with fail;go_loopw [6,27] (λnv i wr=>∃ (k:Nat),k<=2/\i=U k/\Hid (wr.ownsRow w.1.size 5 1 nv (([r0,r1].take k).flatten).length (dz ([r0,r1].take k).flatten))/\bL w wr) (λ_ i _=>2-(intOf i).toNat)
  case atStart=>exact⟨0,by omega,rfl,HO,I⟩
  case round=>
   obtain⟨k,hk,rfl,g,b⟩:=hrel;obtain⟨c0,c1⟩:=Y.o _ b;have o:k=0\/k=1\/k=2:=by omega
   rcases o with rfl|rfl|rfl
   ·obtain⟨J,K,c,a,d⟩:=my B w.1.size 23 _ _ 0 [] r0 wr g.o (R.o.l b M) (by rw[C.o];omega) b.size;rw[W.o] at c
    have q:Hid (K.ownsRow w.1.size 5 1 J (([r0,r1].take 1).flatten).length (dz ([r0,r1].take 1).flatten)):=by
     unfold Hid;have e:([r0,r1].take 1).flatten=r0:=by simp
     rw[e]
     simpa using a
    have r:=b.trans d;clear a d g;go_wp2_with (at_builtin;refine Kw _ rfl _ _ _ _ rfl _ _ rfl rfl _ _ c ?_);exact⟨⟨1,by omega,rfl,q,r⟩,by simp[intOf]⟩
   ·obtain⟨J,K,c,a,d⟩:=my B w.1.size 23 _ _ r0.length (dz r0) r1 wr (by have:=g.o;simpa using this) (S.o.l b M) (by rw[C.o,H.o];omega) b.size;rw[X.o] at c
    have q:Hid (K.ownsRow w.1.size 5 1 J (([r0,r1].take 2).flatten).length (dz ([r0,r1].take 2).flatten)):=by
     unfold Hid;have e:([r0,r1].take 2).flatten=r0++r1:=by simp
     rw[e,oS,Kj];exact a
    have r:=b.trans d;clear a d g;go_wp2_with (at_builtin;refine Kw _ rfl _ _ _ _ rfl _ _ rfl rfl _ _ c ?_);exact⟨⟨2,by omega,rfl,q,r⟩,by simp[intOf]⟩
   have n:=g.o;have e:([r0,r1].take 2).flatten=r0++r1:=by simp
   rw[e] at n;have L:Hid _:=n;clear g n e;go_wp2;go_ret;exact⟨_,rfl,L.o,b⟩
theorem Ei:∃i,prog.info? 226=some i/\i.size=2:=by
 have h:(prog.info? 226).map (·.size)=some 2:=by kernel_rfl
 have⟨j,a,b⟩:=Option.map_eq_some_iff.1 h;exact⟨j,a,b⟩
abbrev sJ(B b:Nat)(bs:List Value)(w:World):Prop:=Lib.BuilderAt 226 5 B b (.pointer (sO b)) bs w
abbrev dY(B b:Nat)(bs:List Value)(w:World):Prop:=Lib.IsBuilder 226 5 B b bs w
def iN(b:Nat)(w w':World):Prop:=w.1.size<=w'.1.size/\∀k o,k≠b->w.1[k]?=some o->(∀a c,o≠.cells a 5 c)->w'.1[k]?=some o
theorem iN.refl(b w):iN b w w:=⟨Ke _,λ_ _ _ h _=>h⟩
theorem iN.trans{b w w' w''}(h:iN b w w')(k:iN b w' w''):iN b w w'':=⟨Kl h.1 k.1,λj o a d c=>k.2 j o a (h.2 j o a d c) c⟩
theorem iN.of_below{b w w'}(h:bL w w'):iN b w w':=⟨h.size,λk o _ a _=>(h.block k (io a)).trans a⟩
theorem sJ.l{T e:TypeId}{B b:Nat}{p:Value}{bs:List Value}{w w':World}(h:Lib.BuilderAt T e B b p bs w)(f:bL w w'):Lib.BuilderAt T e B b p bs w':=by obtain⟨g,v,a,c,d⟩:=h;exact⟨g,v,(f.block b (io a)).trans a,aw c f,d⟩
theorem dY.l{B b bs w w'}(h:dY B b bs w)(a:bL w w'):dY B b bs w':=by
 rcases h with h|h
 ·exact .inl (sJ.l h a)
 exact .inr (sJ.l h a)
theorem Dw(b:Nat)(w:World)(d:w.cell? (pA b 0)=some (.pointer (sO b))):
  cL 214 #[.pointer (sO b)] w λe a=>e=.returned (.tuple #[])/\a=w:=by
 obtain⟨j,c,_⟩:=Ei;go_enter func214,ntmps214;go_wp2;rw[Lib.run_neq_ptr_same w _ Tryz.underlying224 c];go_wp2;go_end0;exact⟨rfl,rfl⟩
theorem tN(b:Nat)(w:World)(h:w.cell? (pA b 0)=some (.pointer none))(a:w.shape? b=some (226,2))(f:w.frozen? (pA b 0)=false):
  cL 214 #[.pointer (sO b)] w λe g=>e=.returned (.tuple #[])/\g=w.setCell (pA b 0) (.pointer (sO b)):=by
 obtain⟨j,d,c⟩:=Ei;go_enter func214,ntmps214;go_wp2;rw[Lib.run_to_unsafe w (pA b 0) Tryz.underlying224 Tryz.underlying278 d (by rw[c];decide) a (Nat.zero_lt_succ 1)];simp only[Result.andThen];rw[MI];go_wp2;rw[MD func227 (by kernel_rfl) (by kernel_rfl) (by kernel_rfl) (e:=Extern.AbiNoEscape.same) (by kernel_rfl)];rw[Lib.run_noEscape];simp only[Result.andThen];rw[MI];go_wp2;rw[Lib.run_from_unsafe w (pA b 0) Tryz.underlying278 Tryz.underlying224 d a (by kernel_rfl)];simp only[Result.andThen];rw[MI];go_wp2;go_end0;exact⟨rfl,rfl⟩
theorem ze(B b bs w)(h:dY B b bs w):
  cL 214 #[.pointer (sO b)] w λe a=>e=.returned (.tuple #[])/\sJ B b bs a/\Below B w a/\iN b w a:=by
 rcases h with h|h
 ·refine(tN b w h.cell0 h.shape h.frozen0).mono ?_;rintro e a ⟨rfl,rfl⟩;exact⟨rfl,h.used _,(Kf B w).setCell (p:=pA b 0) h.1 _,by simp,λk o c d _=>(Kc _ _ _ _ (by show k≠b;exact c)).trans d⟩
 refine(Dw b w h.cell0).mono ?_;rintro e a ⟨rfl,rfl⟩;exact⟨rfl,h,Kf B _,iN.refl _ _⟩
theorem FY(B b bs)(c:Int)(w)(h:dY B b bs w)(I:bs.length+1<=140737488355328)(M:B<=w.1.size):
  cL 212 #[.pointer (sO b),.int .u8 c] w λe t=>e=.returned .nilIface/\sJ B b (bs++[.int .u8 c]) t/\Below B w t/\iN b w t:=by
 obtain⟨N,O,x,y,z⟩:=mo;go_enter func212,ntmps212;go_wp2_with fail;go_at_call 214;refine(ze B b bs _ h).mono ?_;rintro e A ⟨rfl,P,i,C⟩;obtain⟨J,v,l,d,D⟩:=P;have S:A.cell? (pA b 0)=some (.pointer (sO b)):=by rw[Lm l];rfl
 have K:A.cell? (pA b 1)=some v:=by rw[Lm l];rfl
 go_wp2_with (at_builtin;refine wpList_append_own _ rfl _ _ 23 rfl B 5 N (.int .u8 0) 1 1 Tryz.underlying23 O x y z rfl (by decide) _ _ _ rfl (d.alloc _) (pW A 0) 1 1 [.int .u8 c] rfl rfl ?K ?c2 ?c3 ?c4 ?c5 ?_)
 case K=>
  intro j u s
  match j,s with
  |0,s=>simp at s;subst s;simp[Addr.add]
 case c2=>intro u L;simp at L;subst L;rfl
 case c3=>rw[ai];omega
 case c4=>omega
 case c5=>have:=i.size;simp;omega
 intro Q E f a _;have F:=io l;have m:E.1[b]?=some (.cells #[.pointer (sO b),v] 226 (0,0)):=by rw[a.block b (by simp;omega) (λe=>D e.symm),Kq _ _ _ F];exact l
 have V:E.cell? (pA b 0)=some (.pointer (sO b)):=by rw[Lm m];rfl
 have W:E.cell? (pA b 1)=some v:=by rw[Lm m];rfl
 have X:=MP m 1;obtain⟨g,n,rfl⟩:∃g n,Q=.slice (sO g) (bs.length+1) n:=by obtain⟨g,n,h,_⟩:=lY f (by omega);exact⟨g,n,h⟩
 go_wp2;go_ret;refine⟨rfl,?_,?_,C.trans ⟨by have:=a.size;simp at this |-;omega,λk o G q R=>?_⟩⟩
 rotate_left 2
 ·rw[Kc _ _ _ _ (by show k≠b;exact G),a.block k (by have:=io q;simp;omega) (λe=>?_),Kq _ _ _ (io q)]
  ·exact q
  have⟨H,r⟩:=cX d k e.symm;rw[r] at q;exact R H (0,0) (KG q).symm
 ·exact Lib.BuilderAt.put (T:=226) (e:=5) J m (bs':=bs++[.int .u8 c]) (by simpa using f) (by decide)
 exact((i.alloc (by have:=i.size;omega) _).grown a (by have:=i.size;simp;omega) (λk G=>(d.lt k G).1)).setCell (p:=pA b 1) J _
theorem DI(B b bs)(s:ByteArray)(w)(h:dY B b bs w)(C:bs.length+s.size<=140737488355328)(F:B<=w.1.size):
  cL 186 #[.pointer (sO b),.string s] w λe m=>e=.returned (.tuple #[U s.size,.nilIface])/\sJ B b (bs++Lib.strCells s) m/\Below B w m/\iN b w m:=by
 obtain⟨G,H,n,q,r⟩:=mo;go_enter func186,ntmps186;go_wp2_with fail;go_at_call 214;refine(ze B b bs _ h).mono ?_;rintro e D ⟨rfl,I,i,t⟩;obtain⟨E,v,f,c,u⟩:=I;have L:D.cell? (pA b 0)=some (.pointer (sO b)):=by rw[Lm f];rfl
 have M:D.cell? (pA b 1)=some v:=by rw[Lm f];rfl
 go_wp2_with (at_builtin;refine Lib.wpList_append_own_string _ rfl _ _ 23 9 rfl B 5 G Tryz.underlying23 Tryz.underlying9 H n q r _ _ _ rfl c s rfl ?c3 ?c4 ?c5 ?_)
 case c3=>rw[ai];omega
 case c4=>omega
 case c5=>have:=i.size;omega
 intro N x d a _;have y:=io f;have g:x.1[b]?=some (.cells #[.pointer (sO b),v] 226 (0,0)):=by rw[a.block b y (λe=>u e.symm)];exact f
 have O:x.cell? (pA b 0)=some (.pointer (sO b)):=by rw[Lm g];rfl
 have P:x.cell? (pA b 1)=some v:=by rw[Lm g];rfl
 have Q:=MP g 1;obtain⟨R,S,J,rfl⟩:=ye d;go_wp2;go_ret2;refine⟨rfl,?_,?_,t.trans ⟨by have:=a.size;simp;omega,λk o z l K=>?_⟩⟩
 rotate_left 2
 ·rw[Kc _ _ _ _ (by show k≠b;exact z),a.block k (io l) (λe=>?_)]
  ·exact l
  have⟨A,j⟩:=cX c k e.symm;rw[j] at l;exact K A (0,0) (KG l).symm
 ·exact Lib.BuilderAt.put (T:=226) (e:=5) E g (bs':=bs++Lib.strCells s) (by simpa [Lib.strCells_length] using d) (by decide)
 exact(i.grown a (by have:=i.size;omega) (λk z=>(c.lt k z).1)).setCell (p:=pA b 1) E _
