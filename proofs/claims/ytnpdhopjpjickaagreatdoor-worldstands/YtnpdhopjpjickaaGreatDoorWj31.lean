/- Joined: Chn4 Chn5 Kep1 Kep2 Kep3 Kep4 Kep5 Kep6 Kep7 Kep8. -/
import Derived.Test.YtnpdhopjpjickaaGreatDoorWj26
import Derived.Test.YtnpdhopjpjickaaGreatDoorWj18
import Derived.Test.YtnpdhopjpjickaaGreatDoorWj30
import Derived.Test.YtnpdhopjpjickaaGreatDoorWj21
import Derived.Test.YtnpdhopjpjickaaGreatDoorWj13
import Derived.Test.YtnpdhopjpjickaaGreatDoorWj01
section
set_option linter.all false
set_option maxRecDepth 100000
namespace Go.Proofs.YtnpdhopjpjickaaGreatDoor
open Go.RowKit Go.Maps
end Go.Proofs.YtnpdhopjpjickaaGreatDoor
end
section
set_option linter.all false
set_option maxRecDepth 100000
namespace Go.Proofs.YtnpdhopjpjickaaGreatDoor
open Go.RowKit Go.Maps
end Go.Proofs.YtnpdhopjpjickaaGreatDoor
end
section
set_option linter.all false
set_option maxRecDepth 100000
namespace Go.Proofs.YtnpdhopjpjickaaGreatDoor
open Go.RowKit Go.Maps
theorem js {B g:Nat} {w:World} {v:Value} {p:ap} (h:bG B w v p) (N:B<=g):bG g w v p:=by
 obtain⟨l,m,n,a,f,q,s,t,u⟩:=h
 refine⟨l,m,n,a,f,q,s,t,λi r x=>?_⟩
 obtain⟨b,o,e,O,y,z,A,C,D,d,E,F,G,H⟩:=u i r x
 refine⟨b,o,e,by omega,y,z,A,C,D,d,E,F,G,λj c I=>?_⟩
 obtain⟨J,K,L,M,k⟩:=H j c I
 exact⟨J,K,L,by omega,k⟩
def ia (B:Nat) (w:World) (b o:Nat) (c:ay):Prop:=
 ∃ a d,w.cell? ⟨b,o,none⟩=some (.bool c.1)/\w.cell? ⟨b,o+1,none⟩=some a/\w.cell? ⟨b,o+2,none⟩=some d/\w.cell? ⟨b,o+3,none⟩=some (.int .i64 c.2.2.2)/\cH B w a c.2.1/\bG B w (.agg #[d,.int .i64 c.2.2.2]) c.2.2
def bl (B:Nat) (w:World) (v:Value) (l:List ay):Prop:=
 ∃ a d,v=.slice a l.length d/\l.length<=d/\d<=maxLen/\∀ i c,l[i]?=some c->∃ b o,a=some ⟨b,o,none⟩/\b<B/\ia B w b (o+i*4) c
theorem ia.later {B e:Nat} {w w':World} {b o:Nat} {c:ay} (h:ia B w b o c) (d:Below e w w') (f:B<=e) (r:b<B):ia B w' b o c:=by
 obtain⟨g,i,j,k,l,m,n,q⟩:=h
 have a:b<e:=by omega
 exact⟨g,i,(d.cell (p:=⟨b,o,none⟩) a).trans j,(d.cell (p:=⟨b,o+1,none⟩) a).trans k,(d.cell (p:=⟨b,o+2,none⟩) a).trans l,(d.cell (p:=⟨b,o+3,none⟩) a).trans m,n.later d f,q.later d f⟩
theorem bl.later {B f:Nat} {w w':World} {v:Value} {l:List ay} (h:bl B w v l) (j:Below f w w') (m:B<=f):bl B w' v l:=by
 obtain⟨a,d,n,p,q,r⟩:=h
 refine⟨a,d,n,p,q,λi c s=>?_⟩
 obtain⟨b,o,e,g,k⟩:=r i c s
 exact⟨b,o,e,g,k.later j m g⟩
theorem ia.wide {B a:Nat} {w:World} {b o:Nat} {c:ay} (h:ia B w b o c) (d:B<=a):ia a w b o c:=by
 obtain⟨e,f,g,i,j,k,l,m⟩:=h
 exact⟨e,f,g,i,j,k,l.mono d,js m d⟩
theorem bl.wide {B f:Nat} {w:World} {v:Value} {l:List ay} (h:bl B w v l) (g:B<=f):bl f w v l:=by
 obtain⟨a,d,j,m,n,p⟩:=h
 refine⟨a,d,j,m,n,λi c q=>?_⟩
 obtain⟨b,o,e,r,k⟩:=p i c q
 exact⟨b,o,e,by omega,k.wide g⟩
theorem bl.shape {B:Nat} {w:World} {v:Value} {l:List ay} (h:bl B w v l):∃ a b,v=.slice a l.length b/\l.length<=b/\b<=maxLen:=by
 obtain⟨a,b,c,d,e,-⟩:=h
 exact⟨a,b,c,d,e⟩
theorem qt (B:Nat) (w:World):bl B w (.slice none 0 0) []:=⟨none,0,rfl,Nat.le_refl _,by rw[ag];omega,λi c h=>by simp at h⟩
theorem ia.vals {B:Nat} {w:World} {b o:Nat} {c:ay} (h:ia B w b o c):∃ a d f g,w.cell? ⟨b,o,none⟩=some (.bool c.1)/\w.cell? ⟨b,o+1,none⟩=some (.slice a c.2.1.length d)/\w.cell? ⟨b,o+2,none⟩=some (.slice f c.2.2.1.length g)/\w.cell? ⟨b,o+3,none⟩=some (.int .i64 c.2.2.2)/\cH B w (.slice a c.2.1.length d) c.2.1/\bG B w (.agg #[.slice f c.2.2.1.length g,.int .i64 c.2.2.2]) c.2.2:=by
 obtain⟨r,s,k,l,m,n,i,j⟩:=h
 obtain⟨a,d,rfl,-,-⟩:=i.shape
 obtain⟨p,e,t,f,g,q,u⟩:=id j
 simp at e
 subst e q
 exact⟨a,d,f,g,k,l,m,n,i,j⟩
end Go.Proofs.YtnpdhopjpjickaaGreatDoor
end
section
set_option linter.all false
set_option maxRecDepth 100000
namespace Go.Proofs.YtnpdhopjpjickaaGreatDoor
open Go.RowKit Go.Maps
def lL (B:Nat) (w:World) (v:Value) (c:ay):Prop:=∃ a b d e,v=.agg #[.bool c.1,.slice a c.2.1.length b,.slice d c.2.2.1.length e,.int .i64 c.2.2.2]/\cH B w (.slice a c.2.1.length b) c.2.1/\bG B w (.agg #[.slice d c.2.2.1.length e,.int .i64 c.2.2.2]) c.2.2
theorem lL.later {B a:Nat} {w w':World} {v:Value} {c:ay} (h:lL B w v c) (b:Below a w w') (d:B<=a):lL B w' v c:=by
 obtain⟨f,g,i,j,e,k,l⟩:=h
 exact⟨f,g,i,j,e,k.later b d,l.later b d⟩
theorem ia.val {B:Nat} {w:World} {b o:Nat} {c:ay} (h:ia B w b o c):∃ a d e f,w.cell? ⟨b,o,none⟩=some (.bool c.1)/\w.cell? ⟨b,o+1,none⟩=some (.slice a c.2.1.length d)/\w.cell? ⟨b,o+2,none⟩=some (.slice e c.2.2.1.length f)/\w.cell? ⟨b,o+3,none⟩=some (.int .i64 c.2.2.2)/\lL B w (.agg #[.bool c.1,.slice a c.2.1.length d,.slice e c.2.2.1.length f,.int .i64 c.2.2.2]) c:=by
 obtain⟨a,d,e,f,g,i,j,k,l,m⟩:=h.vals
 exact⟨a,d,e,f,g,i,j,k,a,d,e,f,rfl,l,m⟩
set_option maxHeartbeats 4000000 in
theorem sw (B:Nat) (F:FuncId) (hC:∀ s w',(callFunc F s).run Tryz.prog w'=.ok (.enter F s) w') (HF:Hid (∀ (w':World) (u v:Value) (c d:ay),B<=w'.heap.size->lL B w' u c->lL B w' v d->Calls Tryz.prog F #[u,v] w' λe j=>e=.returned (.bool (decide (c=d)))/\Below w'.heap.size w' j)) (lv mv:Value) (f g:List ay) (w:World) (hl:bl B w lv f) (hm:bl B w mv g) (Q:B<=w.heap.size):
  Calls Tryz.prog 59 #[lv,mv,.func (.func F) #[] #[]] w λe w'=>e=.returned (.bool (decide (f=g)))/\Below w.heap.size w w':=by
 have HK:=hid hC
 clear hC
 have HL:Hid (∀ w',Below w.heap.size w w'->bl B w' lv f/\bl B w' mv g):=λw' h=>⟨hl.later h Q,hm.later h Q⟩
 obtain⟨a,bq,rfl,aa,br,-⟩:=id hl
 obtain⟨a2,b8,rfl,R,b9,-⟩:=id hm
 clear hl hm
 by_cases S:f.length=g.length
 ·obtain⟨n,hn⟩:∃ n,n=f.length:=⟨_,rfl⟩
  have C:g.length=n:=by omega
  rw[<-hn] at aa HL |-
  rw[C] at R HL |-
  have bs:n<=9223372036854775807:=by have:=ag;omega
  have HN:Hid (f.length=n/\g.length=n):=⟨hn.symm,C⟩
  clear hn C S
  go_enter Tryz.func59,Tryz.ntmps59
  go_wp2_with fail
  go_loopw [17] (λi wr=>∃ k:Nat,k<=n/\i=.int .i64 k/\Hid (∀ i,i<k->f[i]?=g[i]?)/\Hid (Below w.heap.size w wr)) (λi _=>n-(intOf i).toNat)
  case atStart=>exact⟨0,by omega,rfl,λi h=>absurd h (by omega),Below.refl _ _⟩
  case round=>
   obtain⟨k,hk,rfl,H,l⟩:=hrel
   obtain⟨t,ad⟩:∃ x,x=wr:=⟨_,rfl⟩
   subst ad
   have i0:(0:Int)<=(k:Int):=by omega
   by_cases bv:k<n
   ·have i1:(k:Int)<(n:Int):=by omega
    obtain⟨c,D⟩:∃ c,f[k]?=some c:=⟨f[k]'(by have:=HN.out.1;omega),by simp⟩
    obtain⟨d,E⟩:∃ d,g[k]?=some d:=⟨g[k]'(by have:=HN.out.2;omega),by simp⟩
    obtain⟨ak,ao⟩:=HL.out t l.out
    obtain⟨_,_,e',-,-,T⟩:=ak
    obtain⟨b,o,eb,c4,y⟩:=T k c D
    obtain⟨_,_,U,-,-,V⟩:=ao
    obtain⟨b2,o2,av,bb,z⟩:=V k d E
    simp at e' U
    obtain⟨rfl,-,-⟩:=e'
    obtain⟨rfl,-,-⟩:=U
    subst eb av
    clear T V
    obtain⟨la,lc,ra,rc,c0,c1,c2,c3,W⟩:=y.val
    obtain⟨G,I,J,K,d0,d1,d2,d3,X⟩:=z.val
    have L:=l.out.size
    have c6:b<t.heap.size:=by omega
    have bc:b2<t.heap.size:=by omega
    have Y:Hid (∀ w',Below t.heap.size t w'->Calls Tryz.prog F #[.agg #[.bool c.1,.slice la c.2.1.length lc,.slice ra c.2.2.1.length rc,.int .i64 c.2.2.2],.agg #[.bool d.1,.slice G d.2.1.length I,.slice J d.2.2.1.length K,.int .i64 d.2.2.2]] w' λe j=>e=.returned (.bool (decide (c=d)))/\Below w'.heap.size w' j):=λw' h=>HF.out w' _ _ c d (Nat.le_trans Q (Nat.le_trans L h.size)) (W.later h (Nat.le_trans Q L)) (X.later h (Nat.le_trans Q L))
    have r:Hid (f[k]?=some c/\g[k]?=some d):=⟨D,E⟩
    clear y z W X D E
    generalize c.2.1.length=n1 at*
    generalize d.2.1.length=n2 at*
    generalize c.2.2.1.length=n3 at*
    generalize d.2.2.1.length=n4 at*
    obtain⟨dq,M⟩:∃ dq,dq=decide (c=d):=⟨_,rfl⟩
    have Z:=hid M
    rw[<-M] at Y
    clear M
    go_wp2_with fail
    obtain⟨A,N⟩:∃ A,A=(t.alloc (.cells #[.bool c.1,.slice la n1 lc,.slice ra n3 rc,.int .i64 c.2.2.2] 46)).alloc (.cells #[.bool d.1,.slice G n2 I,.slice J n4 K,.int .i64 d.2.2.2] 46):=⟨_,rfl⟩
    have O:Below t.heap.size t A:=by rw[N];exact ((Below.refl _ _).alloc (Nat.le_refl _) _).alloc (by simp) _
    rw[<-N,HK.out]
    have p:Hid (Calls Tryz.prog F #[.agg #[.bool c.1,.slice la n1 lc,.slice ra n3 rc,.int .i64 c.2.2.2],.agg #[.bool d.1,.slice G n2 I,.slice J n4 K,.int .i64 d.2.2.2]] A λe j=>e=.returned (.bool dq)/\Below A.heap.size A j):=Y.out A O
    have a0:Hid (Below w.heap.size w A):=Below.thenOf l.out O l.out.size
    clear N O
    go_wp2_with fail
    refine Calls.mono p.out ?_
    rintro e w2 ⟨rfl,a1⟩
    have a3:Hid (Below w.heap.size w w2):=Below.thenOf a0.out a1 a0.out.size
    clear a1 p
    cases dq with
    | true=>
     have q:=of_decide_eq_true Z.out.symm
     have P:=hid q
     clear q
     go_wp2_with fail
     refine⟨⟨k+1,by omega,by go_num,λi hi=>?_,a3.out⟩,by simp[intOf];omega⟩
     by_cases b5:i=k
     ·subst b5;rw[r.out.1,r.out.2,P.out]
     ·exact H.out i (by omega)
    | false=>
     have q:=of_decide_eq_false Z.out.symm
     have P:=hid q
     clear q
     go_wp2_with fail
     go_ret
     refine⟨?_,a3.out⟩
     have:f≠g:=by
      intro h
      have h1:=r.out.1
      rw[h,r.out.2] at h1
      exact P.out (Option.some.inj h1).symm
     simp[this]
   ·go_wp2_with fail
    go_ret
    refine⟨?_,l.out⟩
    have:f=g:=by
     refine List.ext_getElem? λi=>?_
     by_cases hi:i<k
     ·exact H.out i hi
     ·rw[List.getElem?_eq_none (by have:=HN.out.1;omega),List.getElem?_eq_none (by have:=HN.out.2;omega)]
    simp[this]
 ·have c8:((f.length:Int) != (g.length:Int))=true:=by simp;omega
  have hf:Hid (decide (f=g)=false):=decide_eq_false λh=>S (by rw[h])
  clear HL HF
  generalize f.length=n at*
  generalize g.length=m at*
  go_enter Tryz.func59,Tryz.ntmps59
  go_wp2_with fail
  go_ret
  exact⟨by rw[hf.out];rfl,Below.refl _ _⟩
end Go.Proofs.YtnpdhopjpjickaaGreatDoor
end
section
set_option linter.all false
set_option maxRecDepth 100000
namespace Go.Proofs.YtnpdhopjpjickaaGreatDoor
open Go.RowKit Go.Maps
theorem sh:∃ i,Tryz.prog.info? 46=some i/\i.zero=some (.agg #[.bool false,.slice none 0 0,.slice none 0 0,.int .i64 0])/\i.size=4/\i.bytes=64:=fD (by kernel_rfl)
def El (B:Nat) (w:World) (xs:List Value) (l:List ay):Prop:=
 xs.length=l.length*4/\(∀ u∈xs,u.oneCell'=true)/\∀ i c,l[i]?=some c->∃ a b,xs[i*4]?=some (.bool c.1)/\xs[i*4+1]?=some a/\xs[i*4+2]?=some b/\xs[i*4+3]?=some (.int .i64 c.2.2.2)/\cH B w a c.2.1/\bG B w (.agg #[b,.int .i64 c.2.2.2]) c.2.2
theorem El.later {B a:Nat} {w w':World} {xs:List Value} {l:List ay} (h:El B w xs l) (b:Below a w w') (d:B<=a):El B w' xs l:=by
 obtain⟨e,f,g⟩:=h
 refine⟨e,f,λi c j=>?_⟩
 obtain⟨k,m,n,o,p,q,r,s⟩:=g i c j
 exact⟨k,m,n,o,p,q,r.later b d,s.later b d⟩
theorem DS {B:Nat} {w:World} {l:List ay} {b o:Nat} (h:∀ i c,l[i]?=some c->ia B w b (o+i*4) c):∃ d,El B w d l/\∀ j u,d[j]?=some u->w.cell? ⟨b,o+j,none⟩=some u:=by
 have e:∀ j,j<l.length*4->∃ v,w.cell? ⟨b,o+j,none⟩=some v/\v.oneCell'=true:=by
  intro j f
  obtain⟨c,k⟩:∃ c,l[j / 4]?=some c:=⟨l[j / 4]'(by omega),by simp⟩
  obtain⟨D,E,F,G,m,n,p,q,-,-⟩:=(h _ c k).vals
  have g:j % 4=0\/j % 4=1\/j % 4=2\/j % 4=3:=by omega
  rcases g with g | g | g | g
  ·exact⟨_,by rw[show o+j=o+j / 4*4 by omega];exact m,rfl⟩
  ·exact⟨_,by rw[show o+j=o+j / 4*4+1 by omega];exact n,rfl⟩
  ·exact⟨_,by rw[show o+j=o+j / 4*4+2 by omega];exact p,rfl⟩
  ·exact⟨_,by rw[show o+j=o+j / 4*4+3 by omega];exact q,rfl⟩
 obtain⟨d,x,r⟩:=ic _ _ e
 refine⟨d,⟨x,λu s=>?_,λi c k=>?_⟩,λj u f=>(r j u f).1⟩
 ·obtain⟨j,f⟩:=List.mem_iff_getElem?.1 s
  exact (r j u f).2
 ·have H:i<l.length:=(List.getElem?_eq_some_iff.1 k).1
  obtain⟨y,z,m,n,p,q,A,C⟩:=h i c k
  have a:∀ (j:Nat) (u:Value),j<l.length*4->w.cell? ⟨b,o+j,none⟩=some u->d[j]?=some u:=λj u f s=>by
   obtain⟨v,t⟩:∃ v,d[j]?=some v:=⟨d[j]'(by omega),by simp⟩
   have:=(r j v t).1
   rw[s] at this
   cases this
   exact t
  exact⟨y,z,a _ _ (by omega) m,a _ _ (by omega) (by rw[<-Nat.add_assoc];exact n),a _ _ (by omega) (by rw[<-Nat.add_assoc];exact p),a _ _ (by omega) (by rw[<-Nat.add_assoc];exact q),A,C⟩
def y6 (G:Nat->Prop) (w:World) (v:Value) (l:List ay):Prop:=∀ a,Kx G w a->bl a.heap.size a v l
def En (G:Nat->Prop) (w:World) (v:Value) (r:al):Prop:=∀ a,Kx G w a->cV a.heap.size a v r
theorem y6.later {G a:Nat->Prop} {w w':World} {v:Value} {l:List ay} (h:y6 G w v l) (b:Below w.heap.size w w') (c:∀ k,k<w.heap.size->a k->G k):y6 a w' v l:=λd e=>h d (e.back b c)
theorem En.later {G a:Nat->Prop} {w w':World} {v:Value} {r:al} (h:En G w v r) (b:Below w.heap.size w w') (c:∀ k,k<w.heap.size->a k->G k):En a w' v r:=λd e=>h d (e.back b c)
theorem En.pol {G:Nat->Prop} {w:World} {a:Option Addr} {k c f d m:Int} {n b:Nat} {g:List ai} (h:En G w (.agg #[.int .i64 k,.int .i64 c,.int .i64 f,.slice a n b,.int .i64 d]) (k,c,f,g,d)):EK G w (.agg #[.slice a n b,.int .i64 d]) (g,d):=λj l=>by
 obtain⟨o,e,-,-,-,i⟩:=h j l
 simp at e
 rw[<-e] at i
 exact i
theorem ig (G:Nat->Prop) (w:World):y6 G w (.slice none 0 0) []:=λ_ _=>qt _ _
theorem y6.vals {G:Nat->Prop} {B:Nat} {w:World} {b o n e:Nat} {l:List ay} (h:y6 G w (.slice (some ⟨b,o,none⟩) n e) l) (x:bl B w (.slice (some ⟨b,o,none⟩) n e) l) (y:At G B w) {i:Nat} {c:ay} {lv rv:Value} (p:l[i]?=some c) (z:w.cell? ⟨b,o+i*4+1,none⟩=some lv) (A:w.cell? ⟨b,o+i*4+2,none⟩=some rv):Em G w lv c.2.1/\EK G w (.agg #[rv,.int .i64 c.2.2.2]) c.2.2:=by
 obtain⟨M,N,q,-,-,C⟩:=x
 obtain⟨O,P,r,k,m⟩:=C i c p
 simp at q
 obtain⟨rfl,-⟩:=q
 simp at r
 obtain⟨rfl,rfl⟩:=r
 obtain⟨D,E,F,Q,R,S,-,-⟩:=m
 have f:=y.bool k F
 have g:∀ a,Kx G w a->cH a.heap.size a lv c.2.1/\bG a.heap.size a (.agg #[rv,.int .i64 c.2.2.2]) c.2.2:=λa d=>by
  obtain⟨T,U,s,-,-,H⟩:=h a d
  obtain⟨V,W,t,-,j⟩:=H i c p
  simp at s
  obtain⟨rfl,-⟩:=s
  simp at t
  obtain⟨rfl,rfl⟩:=t
  obtain⟨I,J,-,u,v,-,K,L⟩:=j
  rw[d.cell f z] at u
  rw[d.cell f A] at v
  cases u
  cases v
  exact⟨K,L⟩
 exact⟨λa d=>(g a d).1,λa d=>(g a d).2⟩
end Go.Proofs.YtnpdhopjpjickaaGreatDoor
end
section
set_option linter.all false
set_option maxRecDepth 100000
namespace Go.Proofs.YtnpdhopjpjickaaGreatDoor
open Go.RowKit Go.Maps
end Go.Proofs.YtnpdhopjpjickaaGreatDoor
end
section
set_option linter.all false
set_option maxRecDepth 100000
namespace Go.Proofs.YtnpdhopjpjickaaGreatDoor
open Go.RowKit Go.Maps
theorem jg {w:World} {k:Nat} {c d e f u0 u1 u2 u3:Value} {T:TypeId} (h:w.heap[k]?=some (.cells #[c,d,e,f] T (0,0))):((((w.setCell ⟨k,0,none⟩ u0).setCell ⟨k,1,none⟩ u1).setCell ⟨k,2,none⟩ u2).setCell ⟨k,3,none⟩ u3).heap[k]?=some (.cells #[u0,u1,u2,u3] T (0,0))/\(∀ g,g≠k->((((w.setCell ⟨k,0,none⟩ u0).setCell ⟨k,1,none⟩ u1).setCell ⟨k,2,none⟩ u2).setCell ⟨k,3,none⟩ u3).heap[g]?=w.heap[g]?)/\((((w.setCell ⟨k,0,none⟩ u0).setCell ⟨k,1,none⟩ u1).setCell ⟨k,2,none⟩ u2).setCell ⟨k,3,none⟩ u3).heap.size=w.heap.size/\∀ L,L<=k->Below L w ((((w.setCell ⟨k,0,none⟩ u0).setCell ⟨k,1,none⟩ u1).setCell ⟨k,2,none⟩ u2).setCell ⟨k,3,none⟩ u3):=by
 have i:=an (o:=0) (u:=u0) h
 have j:=an (o:=1) (u:=u1) i
 have l:=an (o:=2) (u:=u2) j
 have m:=an (o:=3) (u:=u3) l
 refine⟨by rw[m];rfl,λg a=>?_,by simp,λL b=>((((Below.refl L w).setCell (p:=⟨k,0,none⟩) b _).setCell (p:=⟨k,1,none⟩) b _).setCell (p:=⟨k,2,none⟩) b _).setCell (p:=⟨k,3,none⟩) b _⟩
 rw[Below.heap_setCell _ _ _ _ a,Below.heap_setCell _ _ _ _ a,Below.heap_setCell _ _ _ _ a,Below.heap_setCell _ _ _ _ a]
end Go.Proofs.YtnpdhopjpjickaaGreatDoor
end
section
set_option linter.all false
set_option maxRecDepth 100000
namespace Go.Proofs.YtnpdhopjpjickaaGreatDoor
open Go.RowKit Go.Maps
end Go.Proofs.YtnpdhopjpjickaaGreatDoor
end
section
set_option linter.all false
set_option maxRecDepth 100000
namespace Go.Proofs.YtnpdhopjpjickaaGreatDoor
open Go.RowKit Go.Maps
end Go.Proofs.YtnpdhopjpjickaaGreatDoor
end
section
set_option linter.all false
set_option maxRecDepth 100000
namespace Go.Proofs.YtnpdhopjpjickaaGreatDoor
open Go.RowKit Go.Maps
end Go.Proofs.YtnpdhopjpjickaaGreatDoor
end
