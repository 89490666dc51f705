import Derived.Test.YtjdnfhkkkejcfaaGreatDoorWd04
set_option linter.all false
set_option maxRecDepth 100000
set_option maxHeartbeats 8000000
namespace Go.Proofs.YtjdnfhkkkejcfaaGreatDoor
open Go.RowKit Go.Maps Go.Proofs.Tryz
theorem Fb(t:ByteArray)(o:t.size<=60000):∃ (b:ByteArray) (a:List ByteArray),bI 32 t.1.1=b.1.1 :: a.map (λp:ByteArray=>p.1.1)/\b.size<=60000/\(∀u∈a,u.size<=60000)/\a.length<=60000/\
  ∀f w,w.cell? ⟨1,0,none⟩=some (U f)->cL 87 #[.string t,.string ⟨#[32]⟩] w λe g=>∃SB,e=.returned (.slice (sO SB) (a.length+1) (a.length+1))/\bL w g/\w.1.size<=SB/\SB<g.1.size/\∀j u,(b :: a)[j]?=some u->g.cell? ⟨SB,j,none⟩=some (.string u):=by
 have c:(Lib.splitB mL 0 (Lib.countB t mL) t).map (λp:ByteArray=>p.1.1)=bI 32 t.1.1:=by rw[<-jp];exact Lib.splitB_data mL 0 _ t
 have h:=Lib.splitB_all mL (by decide) 0 _ t rfl;obtain⟨k,i⟩:=tP 32 t _ c;generalize d:Lib.splitB mL 0 (Lib.countB t mL) t=l at*
 cases l with
 |nil=>simp at h
 |cons b a=>
  rw[Kv] at h k;refine⟨b,a,by rw[<-c];rfl,by have:=i b (by simp);omega,λu m=>by have:=i u (by simp[m]);omega,by omega,λf w n=>?_⟩;exact CW t (b :: a) a.length f w (by omega) n (by omega) d
theorem Iy{α:Type}(T:List α)(i:Nat)(x:α)(h:T[i]?=some x):T.drop i=x :: T.drop (i+1):=by obtain⟨a,rfl⟩:=K9.1 h;exact KM a
theorem GM(x:Bs)(a:List Bs):(fV 59 (x :: a)).length=x.length+(if a=[] then 0 else 1+(fV 59 a).length):=by
 cases a with
 |nil=>simp[fV]
 |cons y r=>rw[fV];simp;omega
theorem kY(s:ByteArray)(g1:s.size<=60000)(w)(he:dD w):
  cL 54 #[.string s] w λe w'=>∃pv,e=.returned (.tuple #[pv,U (cG s.1.1).2])/\bE w.1.size w' pv (cG s.1.1).1/\Below w.1.size w w':=by
 have lr:=@run_makeMap prog;have gj:=Le (H:=Unit) (w.alloc (.cells #[nL,U 0] 30)) prog 9 (plainElem prog 3);simp only[Kg] at gj;have HE:=Z λw' (h:Below w.1.size w w')=>he.l h
 have oc:1<w.1.size:=he.1.lt;clear he;have⟨T,hT⟩:=nM (bI 59 s.1.1);have HT:=Z hT;have hU:0<T.length:=by rw[hT];exact LY.2 (fM 59 _)
 have dp:s.1.1.length<=60000:=by rw[<-KR];exact g1
 have hV:=Z (wR dp);have ls:Hid (∀p,gS s.1.1=some p->cG s.1.1=if aj p=0 then (p,0) else (([],0),aj p)):=λp=>qA dp
 have HJ:=Z (by rw[hT,ll]:s.1.1=fV 59 T);clear hT dp;go_enter func54,ntmps54
 go_wp2_with (first
  |(refine am _ rfl _ _ _ 137 rfl 9 3 dH Tryz.underlying137 (plainElem prog 3) (w.1.size+1) 0 _ rfl gj (by decide) _ _ _ rfl rfl (Ko Tryz.underlying9 (by decide)) _ [] (KH Tryz.underlying3 (by decide)) ?_;go_must (intro w1 dq hY;clear gj;have o:=((Kf (w.1.size+1) (w.alloc (.cells #[nL,U 0] 30))).alloc (by simp) _).grown hY (by simp) (λk R=>by cases R;exact Ke _)))
  |(refine am _ rfl _ _ _ 137 rfl 9 3 dH Tryz.underlying137 (plainElem prog 3) (w.1.size+1) 1 _ rfl dq (by decide) _ _ _ rfl rfl (Ko Tryz.underlying9 (by decide)) _ [] (KH Tryz.underlying3 (by decide)) ?_;go_must (intro S dr bz;clear dq;replace o:=o.grown bz (by have:=o.size;simp at this;omega) (λk R=>by cases R;exact Ke _)))
  |(refine am _ rfl _ _ _ 137 rfl 9 3 dH Tryz.underlying137 (plainElem prog 3) (w.1.size+1) 2 _ rfl dr (by decide) _ _ _ rfl rfl (Ko Tryz.underlying9 (by decide)) _ [] (KH Tryz.underlying3 (by decide)) ?_;go_must (intro w3 ds hZ;clear dr;replace o:=o.grown hZ (by have:=o.size;simp at this;omega) (λk R=>by cases R;exact Ke _)))
  |(refine am _ rfl _ _ _ 137 rfl 9 3 dH Tryz.underlying137 (plainElem prog 3) (w.1.size+1) 3 _ rfl ds (by decide) _ _ _ rfl rfl (Ko Tryz.underlying9 (by decide)) _ [] (KH Tryz.underlying3 (by decide)) ?_;go_must (intro w4 dv i0;clear ds;replace o:=o.grown i0 (by have:=o.size;simp at this;omega) (λk R=>by cases R;exact Ke _)))
  |(refine am _ rfl _ _ _ 137 rfl 9 3 dH Tryz.underlying137 (plainElem prog 3) (w.1.size+1) 4 _ rfl dv (by decide) _ _ _ rfl rfl (Ko Tryz.underlying9 (by decide)) _ [] (KH Tryz.underlying3 (by decide)) ?_;go_must (intro w5 bF i1;clear dv;replace o:=o.grown i1 (by have:=o.size;simp at this;omega) (λk R=>by cases R;exact Ke _);have D:=bF;have lt:=bF.lt;have i2:=Le (H:=Unit) w5 prog 9 (plainElem prog 3);have d5:w.1.size+1<=w5.1.size:=by have:=o.size;simp at this;omega))
  |(refine am _ rfl _ _ _ 137 rfl 9 3 dH Tryz.underlying137 (plainElem prog 3) w5.1.size 0 _ rfl i2 (by decide) _ _ _ rfl rfl (Ko Tryz.underlying9 (by decide)) _ [] (KH Tryz.underlying3 (by decide)) ?_;go_must (intro w6 e0 go;clear i2;replace o:=(o.alloc (by have:=o.size;simp at this;omega) _).grown go (by have:=o.size;simp at this |-;omega) (λk R=>by cases R;have:=o.size;simp at this;omega);replace D:=(D.alloc _).kept go (by have:=D.lt;simp;omega)))
  |(refine am _ rfl _ _ _ 137 rfl 9 3 dH Tryz.underlying137 (plainElem prog 3) w5.1.size 1 _ rfl e0 (by decide) _ _ _ rfl rfl (Ko Tryz.underlying9 (by decide)) _ [] (KH Tryz.underlying3 (by decide)) ?_;go_must (intro w7 e1 gp;clear e0;replace o:=o.grown gp (by have:=o.size;simp at this;omega) (λk R=>by cases R;exact d5);replace D:=D.kept gp (by simp;omega)))
  |(refine am _ rfl _ _ _ 137 rfl 9 3 dH Tryz.underlying137 (plainElem prog 3) w5.1.size 2 _ rfl e1 (by decide) _ _ _ rfl rfl (Ko Tryz.underlying9 (by decide)) _ [] (KH Tryz.underlying3 (by decide)) ?_;go_must (intro w8 e2 gq;clear e1;replace o:=o.grown gq (by have:=o.size;simp at this;omega) (λk R=>by cases R;exact d5);replace D:=D.kept gq (by simp;omega)))
  |(refine am _ rfl _ _ _ 137 rfl 9 3 dH Tryz.underlying137 (plainElem prog 3) w5.1.size 3 _ rfl e2 (by decide) _ _ _ rfl rfl (Ko Tryz.underlying9 (by decide)) _ [] (KH Tryz.underlying3 (by decide)) ?_;go_must (intro w9 e3 gr;clear e2;replace o:=o.grown gr (by have:=o.size;simp at this;omega) (λk R=>by cases R;exact d5);replace D:=D.kept gr (by simp;omega)))
  |(refine am _ rfl _ _ _ 137 rfl 9 3 dH Tryz.underlying137 (plainElem prog 3) w5.1.size 4 _ rfl e3 (by decide) _ _ _ rfl rfl (Ko Tryz.underlying9 (by decide)) _ [] (KH Tryz.underlying3 (by decide)) ?_;go_must (intro b9 av e4;clear e3;replace o:=o.grown e4 (by have:=o.size;simp at this;omega) (λk R=>by cases R;exact d5);replace D:=D.kept e4 (by simp;omega);have K2:=av;have lv:=av.lt;have i3:=Le (H:=Unit) b9 prog 5 (plainElem prog 3);have f2:w.1.size+1<=b9.1.size:=by have:=o.size;simp at this;omega))
  |(refine am _ rfl _ _ _ 138 rfl 5 3 yP Tryz.underlying138 (plainElem prog 3) b9.1.size 0 _ rfl i3 (by decide) _ _ _ rfl rfl (KF Tryz.underlying5 (by decide)) _ [] (KH Tryz.underlying3 (by decide)) ?_;go_must (intro oj c9 ca;clear i3;replace o:=(o.alloc (by have:=o.size;simp at this;omega) _).grown ca (by have:=o.size;simp at this |-;omega) (λk R=>by cases R;have:=o.size;simp at this;omega);replace D:=(D.alloc _).kept ca (by have:=D.lt;simp;omega);replace K2:=(K2.alloc _).kept ca (by have:=K2.lt;simp;omega)))
  |(refine am _ rfl _ _ _ 138 rfl 5 3 yP Tryz.underlying138 (plainElem prog 3) b9.1.size 1 _ rfl c9 (by decide) _ _ _ rfl rfl (KF Tryz.underlying5 (by decide)) _ [] (KH Tryz.underlying3 (by decide)) ?_;go_must (intro op cb cc;clear c9;replace o:=o.grown cc (by have:=o.size;simp at this;omega) (λk R=>by cases R;exact f2);replace D:=D.kept cc (by simp;omega);replace K2:=K2.kept cc (by simp;omega)))
  |(refine am _ rfl _ _ _ 138 rfl 5 3 yP Tryz.underlying138 (plainElem prog 3) b9.1.size 2 _ rfl cb (by decide) _ _ _ rfl rfl (KF Tryz.underlying5 (by decide)) _ [] (KH Tryz.underlying3 (by decide)) ?_;go_must (intro os cd ce;clear cb;replace o:=o.grown ce (by have:=o.size;simp at this;omega) (λk R=>by cases R;exact f2);replace D:=D.kept ce (by simp;omega);replace K2:=K2.kept ce (by simp;omega)))
  |(refine am _ rfl _ _ _ 138 rfl 5 3 yP Tryz.underlying138 (plainElem prog 3) b9.1.size 3 _ rfl cd (by decide) _ _ _ rfl rfl (KF Tryz.underlying5 (by decide)) _ [] (KH Tryz.underlying3 (by decide)) ?_;go_must (intro e5 b2 cf;clear cd;replace o:=o.grown cf (by have:=o.size;simp at this;omega) (λk R=>by cases R;exact f2);replace D:=D.kept cf (by simp;omega);replace K2:=K2.kept cf (by simp;omega);have K3:=b2;have lw:=b2.lt)))
 have L5:Jv w (e5.alloc (.cells #[nL,U 0] 30)) w.1.size (w.1.size+1) w5.1.size b9.1.size e5.1.size:=by
  have i4:=o.size;simp at i4;refine⟨(bR.alloc lE _).trans ((o.alloc (by simpa using i4) _).mono (by omega)),?_,D.alloc _,K2.alloc _,K3.alloc _,?_,rfl,by omega,D.lt,K2.lt,K3.lt,by simp⟩
  ·rw[Kq _ _ _ (by omega),o.block _ (by omega)];exact(Kr w _).1
  exact(Kr e5 _).1
 clear o D K2 K3 lt lv lw d5 f2 bF av b2 hY bz hZ i0 i1 go gp gq gr e4 ca cc ce cf lr;have f3:Hid _:=L5;clear L5;generalize e5.alloc (.cells #[nL,U 0] 30)=W at*;generalize w5.1.size=M2 at*;generalize b9.1.size=M3 at*;generalize e5.1.size=A at*;generalize d5:w.1.size+1=M1 at*;generalize ba:w.1.size=R0 at*;have lx:=f3.o;obtain⟨ly,lW,_,_,_,m2,_,m3,m4,m5,m6,m7⟩:=lx;go_loopw [0] (λsv wr=>∃ (i:Nat) (s':ByteArray) (rv:Value) (xs:List Value) (rs:List aq),sv=.string s'/\i<T.length/\Hid (s'.1.1=fV 59 (T.drop i))/\Hid (ep cC (T.take i)=some rs)/\rs.length=i/\i+s'.size<=60000/\Below A W wr/\Hid (Na wr A #[rv,U 0] 30)/\Hid (wr.ownsRow (A+1) 131 2 rv i xs)/\Hid (cH (A+1) wr rs xs)/\A<wr.1.size) (λsv _=>DL sv)
 case atStart=>exact⟨0,s,nL,[],[],rfl,hU,HJ.o,rfl,rfl,by omega,Kf _ _,m2,⟨rfl,.inl ⟨rfl,rfl⟩⟩,rfl,m7⟩
 case round=>
  obtain⟨i,s',rv,xs,rs,rfl,hi,G,HA,c1,ck,bb,HP,HO,HR,f4⟩:=hrel;have⟨wo,ma⟩:=nM (wr);subst ma;have e6:=ly.trans (bb.mono (by omega));have nQ:=bb.size;have⟨mm,gv⟩:=(HE.o wo e6).1;have gz:=Z ((bb.block R0 m3).trans lW);obtain⟨x,hx⟩:∃x,T[i]?=some x:=⟨T[i],by simp[hi]⟩;have ih:(59:UInt8) ∉ x:=rO 59 s.1.1 x (by rw[<-HT.o];exact Kb hx);have it:=Iy T i x hx;have gA:=Z (by rw[<-HT.o];exact hx:(bI 59 s.1.1)[i]?=some x);have a4:=GM x (T.drop (i+1));have G':=G.o;rw[it] at G';rw[<-G',<-KR] at a4;have E:=EO x (T.drop (i+1)) ih;rw[<-G'] at E;have iv:=Z (by rw[HT.o]:T.length=(bI 59 s.1.1).length);have a6:=Z λwz (h:Below wo.1.size wo wz)=>Q2 ((h.block R0 (by omega)).trans gz.o) (e6.trans (h.mono (by omega)))
  obtain⟨w0,ws,f5,gD,e7,b3,cn⟩:=Fb (dU x) (by rw[KR];show x.length<=_;omega);have d6:w0.size<=maxLen:=by have:=ai;omega
  have N:Hid (∀w1,Below wo.1.size wo w1->_):=λw1 V=>cn mm w1 ((V.cell (p:=⟨1,0,none⟩) (by show 1<_;omega)).trans gv)
  have da:=Z (dO f3.o.2.2.1 bb m4);have bc:Hid (bI 32 x=w0.1.1 :: ws.map (λp:ByteArray=>p.1.1)):=f5;have f9:=Z e7;clear cn f5 e7 G' ih it
  by_cases F:T.drop (i+1)=[]
  ·have ak:i+1=(bI 59 s.1.1).length:=by rw[<-iv.o];have:=List.drop_eq_nil_iff.1 F;omega
   have co:=Z ak;rw[F] at E;have Y:Hid _:=Bg s' (dU x) (dU (fV 59 [])) false mm wo (by omega) gv E;clear E a4 F ak;generalize c2:ws.length=n at*
   by_cases hv:bt vN x<0
   ·have t:=Z (hV.o (BD gA.o co.o hv))
    have mc:Maps.has D1 (.string w0.1.1)=false\/(Maps.has D1 (.string w0.1.1)=true/\0<n):=by
     cases hh:Maps.has D1 (.string w0.1.1) with
     |false=>exact .inl rfl
     |true=>
      refine .inr ⟨rfl,?_⟩
      rcases Nat.eq_zero_or_pos n with h0|h0
      ·exfalso;obtain rfl:ws=[]:=LA.1 (c2.trans h0);have f5:=bc.o;have hj:=ll 32 x;rw[f5] at hj;have md:w0.1.1=x:=hj;rw[md] at hh
       rcases A6 x with ⟨V,_⟩|⟨_,h2⟩
       ·omega
       rw[hh] at h2;cases h2
      exact h0
    clear hv
    rcases mc with cp|⟨cp,ov⟩
    case' inr=>have oy:(1:Int)<(n:Int)+1:=by omega
    all_goals
     go_wp2_with (first
      |(go_at_call 86;go_must (refine Calls.mono Y.o ?_;rintro e w1 ⟨rfl,I⟩))
      |(go_at_call 87;go_must (refine Calls.mono (N.o _ I) ?_;rintro e S ⟨SB,rfl,a7,e8,a8,f⟩;have b:=I.th a7;have c0:=f 0 w0 rfl;have D:=dO da.o b (by omega)))
      |(at_lookup;go_must (refine La _ rfl _ _ 137 rfl 9 3 .i64 dH Tryz.underlying137 Tryz.underlying3 (jj _) M1 5 _ rfl D _ _ rfl (Ld Tryz.underlying9 d6) ?_;intro c J b4))
      |(go_at_call 85;go_must (refine Calls.mono (pM _ _) ?_;rintro e wz ⟨rfl,a5⟩;have⟨L,M⟩:=a6.o wz (b.th a5);have⟨n0,n1,dc,dd⟩:=ag L)))
     have⟨C,z0,z1⟩:=mF M L;refine Ka (v:=.tuple #[.agg #[nL,U 0],U 1]) ?_ rfl ⟨_,by rw[t.o],by rw[t.o];exact λ_ _ _=>bV _ _,by rw[ba];exact C⟩;rw[K8 rfl];go_simp
   have de:=xZ (x:=x) (by omega);rw[bc.o] at de
   injection de with e9 ea
   have ea:ws=[]:=by simpa using ea
   subst ea;obtain rfl:0=n:=c2;have⟨d,hd⟩:=nM (bt vN x);have ix:wf d:=by have V:=jO vN x;have h2:vN.length=5:=rfl;rw[h2,<-hd] at V;exact cR (by omega)
   have eb:=Gx gA.o co.o (by rw[<-HT.o];exact HA.o) (by omega);rw[<-hd] at eb;have t:Hid _:=ls.o _ eb;have j2:∀r∈rs,zO r:=λr hr=>by obtain⟨y,_,e⟩:=tu cC _ _ HA.o r hr;exact CK e
   obtain⟨cp,bd⟩:Maps.has D1 (.string w0.1.1)=true/\Hid (D1.atKey (.string w0.1.1) Ib=.lit (.int .i64 d)):=by
    rcases A6 x with ⟨_,V,h2⟩|⟨V,_⟩
    ·rw[e9];refine⟨V,?_⟩;unfold Hid;rw[h2,hd]
    omega
   clear e9 eb hv;obtain⟨ra,a9,rfl,_,_,_⟩:=an HO.o
   have HF:Hid (∀wF:World,(∀g,A+1<=g->g<wo.1.size->wF.1[g]?=wo.1[g]?)->wo.1.size<=wF.1.size->aX wF.1.size wF (.agg #[.slice ra i a9,U d]) (rs,d)):=by
    intro wF V h2;have hO:=HO.o
    rw[<-c1] at hO |-
    exact In (bT hO λg a1 hg hh=>V g hg (io hh)) (cH.step (λg a1 hg hh=>V g hg (io hh)) _ _ HR.o) j2 ix lE
   have⟨pe,gY⟩:=nM (aj (rs,d));have g4:Hid (∀wF:World,(∀g,A+1<=g->g<wo.1.size->wF.1[g]?=wo.1[g]?)->wo.1.size<=wF.1.size->cL 89 #[.agg #[.slice ra i a9,U d]] wF λe w'=>e=.returned (U pe)/\Below wF.1.size wF w'):=λwF V h2=>by rw[gY];exact fW _ _ _ _ (HF.o wF V h2) lE
   have cx:=Z (by rw[gY];exact t.o:cG s.1.1=if pe=0 then ((rs,d),0) else (([],0),pe));clear gY t hd j2 ix
   by_cases h4:pe=0
   ·subst h4;have t:=Z (by rw[cx.o,Io rfl]:cG s.1.1=((rs,d),0));clear cx
    go_wp2_with (first
     |(go_at_call 86;go_must (refine Calls.mono Y.o ?_;rintro e w1 ⟨rfl,I⟩))
     |(go_at_call 87;go_must (refine Calls.mono (N.o _ I) ?_;rintro e S ⟨SB,rfl,a7,e8,a8,f⟩;have b:=I.th a7;have c0:=f 0 w0 rfl;have D:=dO da.o b (by omega);have bf:=(b.block A f4).trans HP.o;have⟨p0,p1,h5,h6⟩:=ag bf))
     |(at_lookup;go_must (refine La _ rfl _ _ 137 rfl 9 3 .i64 dH Tryz.underlying137 Tryz.underlying3 (jj _) M1 5 _ rfl D _ _ rfl (Ld Tryz.underlying9 d6) ?_;intro c J b4;obtain rfl:c=d:=ji (J.symm.trans bd.o)))
     |(go_at_call 89;go_must (refine Calls.mono (g4.o (S.setCell (pA A 1) (U c)) (λg V h2=>by rw[Kc _ _ _ _ (by show g≠A;omega)];exact b.block g h2) (by have:=b.size;simpa using this)) ?_;rintro e w5 ⟨rfl,b5⟩;have ec:=b5.size;have ed:=b.size;have ml:=(b5.block A (by simp;omega)).trans (du (u:=U c) bf);have⟨m0,m1,p3,p4⟩:=ag ml;have fb:=(b5.block R0 (by simp;omega)).trans ((Kc _ _ _ _ (by show R0≠A;omega)).trans ((b.block R0 (by omega)).trans gz.o));have⟨n0,n1,dc,dd⟩:=ag fb)))
    have mn:=du (u:=U c) (dC (u:=.slice ra i a9) fb);have⟨z0,z1,_,_⟩:=ag mn;have C:Below R0 w ((w5.setCell (pA R0 0) (.slice ra i a9)).setCell (pA R0 1) (U c)):=(((e6.trans (b.mono (by omega))).setCell (p:=pA A 1) (by show R0<=A;omega) _).trans (b5.mono (by simp;omega)) |>.setCell (p:=pA R0 0) lE _).setCell (p:=pA R0 1) lE _;have mr:bE R0 ((w5.setCell (pA R0 0) (.slice ra i a9)).setCell (pA R0 1) (U c)) (.agg #[.slice ra i a9,U c]) (rs,c):=λwF ms mv=>HF.o wF (λg V h2=>by rw[ms g (by omega) (by simp at ec |-;omega),Kc _ _ _ _ (by show g≠R0;omega),Kc _ _ _ _ (by show g≠R0;omega),b5.block g (by simp;omega),Kc _ _ _ _ (by show g≠A;omega)];exact b.block g h2) (Kl (by simp at ec |-;omega) mv)
    refine Ka (v:=.tuple #[.agg #[.slice ra i a9,U c],U 0]) ?_ rfl ⟨_,by rw[t.o],by rw[t.o,ba];exact mr,by rw[ba];exact C⟩;rw[K8 rfl];go_simp
   have t:=Z (by rw[cx.o,iO h4]:cG s.1.1=(([],0),pe));have p5:(pe==0)=false:=by simpa using h4
   clear cx
   go_wp2_with (first
    |(go_at_call 86;go_must (refine Calls.mono Y.o ?_;rintro e w1 ⟨rfl,I⟩))
    |(go_at_call 87;go_must (refine Calls.mono (N.o _ I) ?_;rintro e S ⟨SB,rfl,a7,e8,a8,f⟩;have b:=I.th a7;have c0:=f 0 w0 rfl;have D:=dO da.o b (by omega);have bf:=(b.block A f4).trans HP.o;have⟨p0,p1,h5,h6⟩:=ag bf))
    |(at_lookup;go_must (refine La _ rfl _ _ 137 rfl 9 3 .i64 dH Tryz.underlying137 Tryz.underlying3 (jj _) M1 5 _ rfl D _ _ rfl (Ld Tryz.underlying9 d6) ?_;intro c J b4;obtain rfl:c=d:=ji (J.symm.trans bd.o)))
    |(go_at_call 89;go_must (refine Calls.mono (g4.o (S.setCell (pA A 1) (U c)) (λg V h2=>by rw[Kc _ _ _ _ (by show g≠A;omega)];exact b.block g h2) (by have:=b.size;simpa using this)) ?_;rintro e w5 ⟨rfl,b5⟩;have ec:=b5.size;have ed:=b.size;have fb:=(b5.block R0 (by simp;omega)).trans ((Kc _ _ _ _ (by show R0≠A;omega)).trans ((b.block R0 (by omega)).trans gz.o));have j3:=((e6.trans (b.mono (by omega))).setCell (p:=pA A 1) (by show R0<=A;omega) _).trans (b5.mono (by simp;omega))))
    |(go_at_call 85;go_must (refine Calls.mono (pM _ _) ?_;rintro e wz ⟨rfl,a5⟩;have L:=(a5.block R0 (by simp at ec;omega)).trans fb;have M:=j3.trans (a5.mono (by simp at ec;omega));have⟨n0,n1,dc,dd⟩:=ag L)))
   have⟨C,z0,z1⟩:=mF M L;refine Ka (v:=.tuple #[.agg #[nL,U 0],U pe]) ?_ rfl ⟨_,by rw[t.o],by rw[t.o];exact λ_ _ _=>bV _ _,by rw[ba];exact C⟩;rw[K8 rfl];go_simp
  have ak:i+1<T.length:=by
   rcases MU (i+1) T.length with h|h
   ·exact h
   exact absurd (List.drop_eq_nil_iff.2 h) F
  have co:=Z (by rw[<-iv.o];exact ak:i+1<(bI 59 s.1.1).length);rw[iO F] at a4;have⟨aa,c4⟩:=nM (T.drop (i+1));rw[<-c4] at E a4 F
  have fd:(!aa.isEmpty)=true:=by cases aa with
   |nil=>exact absurd rfl F
   |cons _ _=>rfl
  rw[fd] at E;have Y:Hid _:=Bg s' (dU x) (dU (fV 59 aa)) true mm wo (by omega) gv E;have fe:(dU (fV 59 aa)).size=(fV 59 aa).length:=by rw[KR];rfl
  have cT:=Z c4;have h7:=Z λ(h:cC x=none)=>hV.o (Bm gA.o co.o h)
  have j4:=Z hx;clear E F c4 fd hx;generalize c2:ws.length=n at*
  rcases A6 w0.1.1 with ⟨ja,cp,h8⟩|⟨hv,cp⟩
  case' inr=>
   have t:=Z (h7.o (Ga bc.o hv));clear hv
   go_wp2_with (first
    |(go_at_call 86;go_must (refine Calls.mono Y.o ?_;rintro e w1 ⟨rfl,I⟩))
    |(go_at_call 87;go_must (refine Calls.mono (N.o _ I) ?_;rintro e S ⟨SB,rfl,a7,e8,a8,f⟩;have b:=I.th a7;have c0:=f 0 w0 rfl;have D:=dO da.o b (by omega)))
    |(at_lookup;go_must (refine La _ rfl _ _ 137 rfl 9 3 .i64 dH Tryz.underlying137 Tryz.underlying3 (jj _) M1 5 _ rfl D _ _ rfl (Ld Tryz.underlying9 d6) ?_;intro c J b4))
    |(go_at_call 85;go_must (refine Calls.mono (pM _ _) ?_;rintro e wz ⟨rfl,a5⟩;have⟨L,M⟩:=a6.o wz (b.th a5);have⟨n0,n1,dc,dd⟩:=ag L)))
   have⟨C,z0,z1⟩:=mF M L;refine Ka (v:=.tuple #[.agg #[nL,U 0],U 1]) ?_ rfl ⟨_,by rw[t.o],by rw[t.o];exact λ_ _ _=>bV _ _,by rw[ba];exact C⟩;rw[K8 rfl];go_simp
  have⟨vd,h9⟩:=nM (bt vN w0.1.1);rw[<-h9] at h8 ja;have bd:=Z h8;have jb:Hid (∀O,ep cZ (ws.map (λp:ByteArray=>p.1.1))=some O->cC x=some (O,vd)):=λO h=>by rw[h9];exact Fg bc.o (by omega) h
  have mS:Hid (∀ (j:Nat) u,ws[j]?=some u->cZ u.1.1=none->cG s.1.1=(([],0),1)):=λj u hu hc=>h7.o (At bc.o (j:=j) (u:=u.1.1) (by rw[Ku,hu];rfl) hc)
  have mT:=Z (dO f3.o.2.2.2.1 bb m5);have jc:=Z (dO f3.o.2.2.2.2.1 bb m6);have n2:Hid (∀w',Below wo.1.size wo w'->dD w'):=λw' h=>HE.o w' (e6.trans (h.mono (by omega)))
  have HN:=Z7 ck a4.symm fe b3 c2 c1 ak;clear h8 h9 ja h7 ck a4 fe b3 c2 c1 ak gD g1 hU hi
  by_cases n3:n=0
  ·subst n3
   go_wp2_with (first
    |(go_at_call 86;go_must (refine Calls.mono Y.o ?_;rintro e w1 ⟨rfl,I⟩))
    |(go_at_call 87;go_must (refine Calls.mono (N.o _ I) ?_;rintro e S ⟨SB,rfl,a7,e8,a8,f⟩;have b:=I.th a7;have c0:=f 0 w0 rfl;have D:=dO da.o b (by omega)))
    |(at_lookup;go_must (refine La _ rfl _ _ 137 rfl 9 3 .i64 dH Tryz.underlying137 Tryz.underlying3 (jj _) M1 5 _ rfl D _ _ rfl (Ld Tryz.underlying9 d6) ?_;intro c J b4;obtain rfl:c=vd:=ji (J.symm.trans bd.o))))
   have c5:Below S.1.size S (S.alloc (.cells #[nL,U c] 131)):=bR.alloc lE _;have hb:Hid (Na (S.alloc (.cells #[nL,U c] 131)) S.1.size #[nL,U c] 131):=(Kr S _).1;have hf:S.1.size<(S.alloc (.cells #[nL,U c] 131)).1.size:=by simp
   have d0:Below wo.1.size wo (S.alloc (.cells #[nL,U c] 131)):=b.th c5;have bg:Hid (∀ (j:Nat) u,(w0 :: ws)[j]?=some u->(S.alloc (.cells #[nL,U c] 131)).cell? ⟨SB,j,none⟩=some (.string u)):=λj u h=>(c5.cell (p:=⟨SB,j,none⟩) a8).trans (f j u h)
   have ed:=b.size;have k2:=Z b4;clear f c0 D J b4 c5;generalize S.alloc (.cells #[nL,U c] 131)=W7 at*;generalize S.1.size=Q at*;go_loopw [70] (λjv B=>∃ (j:Nat) (cv:Value) (O:List aN),j<=0/\jv=U j/\Hid (ep cZ ((ws.map (λp:ByteArray=>p.1.1)).take j)=some O)/\Hid (O.length=j)/\Below Q W7 B/\Hid (Na B Q #[cv,U c] 131)/\Hid (B.ownsRow (Q+1) 134 3 cv j (dP O))/\Q<B.1.size) (λjv _=>0-(intOf jv).toNat)
   case atStart=>exact⟨0,nL,[],Ks _,rfl,rfl,rfl,Kf _ _,hb,⟨rfl,.inl ⟨rfl,rfl⟩⟩,hf⟩
   case round=>
    obtain⟨j,cv,O,hj,rfl,fi,d1,df,fl,di,k4⟩:=hrel;have⟨B,hm⟩:=nM (wr);subst hm;have j0:(0:Int)<=(j:Int):=by omega
    rcases MU j 0 with fn|fn
    ·exact absurd fn (Nat.not_lt_zero _)
    obtain rfl:j=0:=by omega
    have l:Below wo.1.size wo B:=d0.trans (df.mono (by omega));have k5:=l.size;have ee:Hid (cC x=some (O,c)):=jb.o O (by have:=fi.o;rw[Ki (by rw[Lw,HN.o.2.2.2.2.1];exact Ke _)] at this;exact this);have c6:Na B A #[rv,U 0] 30:=(l.block A f4).trans HP.o;have ef:=aw HO.o l;have eg:B.ownsRow (Q+1) 134 3 cv O.length (dP O):=by rw[d1.o];exact di.o
    have ej:=cH.step (w':=B) (λg a1 _ hg=>l.block g (io hg)) _ _ HR.o;obtain⟨gc,ac,rfl,_,_,_⟩:=an di.o;have⟨p0,p1,h5,h6⟩:=ag c6;have⟨b0,b1,n4,n5⟩:=ag fl.o;have ek:Hid _:=c6;have a2:=Z ef;have el:=Z eg;have em:=Z ej;clear c6 ef eg ej;obtain⟨en,eq,er,es,et⟩:=jY
    have eu:Hid (∀X,X=Obj.cells #[.slice gc 0 ac,U c] 131->∀q v,[Value.slice gc 0 ac,U c][q]?=some v->(B.alloc X).cell? (((pW B 0):Addr).add q)=some v):=by
     intro X hX q v hq;subst hX;have:q<2:=by have:=(K9.1 hq).1;simpa using this
     have:q=0\/q=1:=by omega
     rcases this with rfl|rfl<;>simp at hq<;>subst hq<;>simp[go_sem,Addr.add]
    have bf:=Z λX=>aw a2.o (bR.alloc lE X)
    go_wp2_with (first
     |(at_builtin;refine wpList_append_own _ rfl _ _ 28 rfl (A+1) 131 en _ 2 32 Tryz.underlying28 eq er es et rfl (by decide) rv i xs rfl (bf.o _) (pW B 0) 1 1 [.slice gc 0 ac,U c] rfl rfl (eu.o _ rfl) (by simp[Value.oneCell']) (by have:=ai;have:=HN.o.1;omega) (by have:=HN.o.1;omega) (by simp;omega) ?_;go_must (intro v' wk ad ae ho;obtain⟨gk,capk,rfl,hgk⟩:=lY ad (by omega);have c7:=(ae.block A (by simp;omega) (λh=>by have:=eh a2.o A h.symm;omega)).trans ((Kq _ _ _ (by omega)).trans ek.o);have⟨k0,k1,n8,n9⟩:=ag c7)))
    have ew:∀ (g:Nat) (a1:Array Value),A+1<=g->Na B g a1 134->(wk.setCell (pA A 0) (.slice (sO gk) (i+1) capk)).1[g]?=B.1[g]?:=by intro g a1 hg hh;have hp:=io hh;rw[Kc _ _ _ _ (by show g≠A;omega),ae.block g (by simp;omega) (λh=>?_),Kq _ _ _ hp];have⟨k7,h'⟩:=cX a2.o g h.symm;rw[hh] at h';simp at h'
    have C:Below A W (wk.setCell (pA A 0) (.slice (sO gk) (i+1) capk)):=(((Below.tO bb l (by omega)).alloc (by omega) _).grown ae (by simp;omega) (λk R=>by have:=eh a2.o k R;omega)).setCell lE _;have hs:=bT (cU el.o (by omega:A+1<=Q+1)) ew;have ht:=cH.push (O,c) _ hs _ _ (cH.step ew _ _ em.o);obtain⟨ck,a4,fe,b3,c2,c1,ak⟩:=HN.o;refine⟨⟨i+1,dU (fV 59 aa),_,_,rs++[(O,c)],rfl,ak,by unfold Hid;rw[<-cT.o];rfl,lh cC T i x j4.o rs HA.o (O,c) ee.o,by rw[Kj,c1];rfl,by omega,C,dC c7,Mr ad (a:=pA A 0) (by simp[Value.ownBlock];omega) _,ht,by have:=io c7;simpa using this⟩,by simp only[DL];omega⟩
  have n0:(0:Int)<(n:Int):=by omega
  go_wp2_with (first
   |(go_at_call 86;go_must (refine Calls.mono Y.o ?_;rintro e w1 ⟨rfl,I⟩))
   |(go_at_call 87;go_must (refine Calls.mono (N.o _ I) ?_;rintro e S ⟨SB,rfl,a7,e8,a8,f⟩;have b:=I.th a7;have c0:=f 0 w0 rfl;have D:=dO da.o b (by omega)))
   |(at_lookup;go_must (refine La _ rfl _ _ 137 rfl 9 3 .i64 dH Tryz.underlying137 Tryz.underlying3 (jj _) M1 5 _ rfl D _ _ rfl (Ld Tryz.underlying9 d6) ?_;intro c J b4;obtain rfl:c=vd:=ji (J.symm.trans bd.o))))
  have c5:Below S.1.size S (S.alloc (.cells #[nL,U c] 131)):=bR.alloc lE _;have hb:Hid (Na (S.alloc (.cells #[nL,U c] 131)) S.1.size #[nL,U c] 131):=(Kr S _).1;have hf:S.1.size<(S.alloc (.cells #[nL,U c] 131)).1.size:=by simp
  have d0:Below wo.1.size wo (S.alloc (.cells #[nL,U c] 131)):=b.th c5;have bg:Hid (∀ (j:Nat) u,(w0 :: ws)[j]?=some u->(S.alloc (.cells #[nL,U c] 131)).cell? ⟨SB,j,none⟩=some (.string u)):=λj u h=>(c5.cell (p:=⟨SB,j,none⟩) a8).trans (f j u h)
  have ed:=b.size;have k2:=Z b4;clear f c0 D J b4 c5;generalize S.alloc (.cells #[nL,U c] 131)=W7 at*;generalize S.1.size=Q at*;go_loopw [70] (λjv B=>∃ (j:Nat) (cv:Value) (O:List aN),j<=n/\jv=U j/\Hid (ep cZ ((ws.map (λp:ByteArray=>p.1.1)).take j)=some O)/\Hid (O.length=j)/\Below Q W7 B/\Hid (Na B Q #[cv,U c] 131)/\Hid (B.ownsRow (Q+1) 134 3 cv j (dP O))/\Q<B.1.size) (λjv _=>n-(intOf jv).toNat)
  case atStart=>exact⟨0,nL,[],Ks _,rfl,rfl,rfl,Kf _ _,hb,⟨rfl,.inl ⟨rfl,rfl⟩⟩,hf⟩
  case round=>
   obtain⟨j,cv,O,hj,rfl,fi,d1,df,fl,di,k4⟩:=hrel;have⟨B,hm⟩:=nM (wr);subst hm;have j0:(0:Int)<=(j:Int):=by omega
   rcases MU j n with fn|fn
   ·have j1:(j:Int)<(n:Int):=by omega
    obtain⟨u,hu⟩:∃u,ws[j]?=some u:=⟨ws[j]'(by have:=HN.o.2.2.2.2.1;omega),by simp⟩;have o0:u.size<=60000:=f9.o u (Kb hu);have pm:B.cell? ⟨SB,1+j,none⟩=some (.string u):=(df.cell (p:=⟨SB,1+j,none⟩) (by show SB<Q;omega)).trans (bg.o (1+j) u (by rw[Mk];simpa using hu));have na:=Z (by rw[Ku,hu];rfl:(ws.map (λp:ByteArray=>p.1.1))[j]?=some u.1.1);have hy:=Z (mS.o j u hu);have⟨K,ka,kb,c8⟩:=Jw u.1.1;rw[<-KR] at ka c8;have kc:=Z kb;have fo:Hid _:=c8;have l:Below wo.1.size wo B:=d0.trans (df.mono (by omega));have nb:=l.size;have K3:B.ownsMap prog 5 (plainElem prog 3) M3 4 D3:=dO jc.o l (by omega);have kd:Hid (∀i,(Instr.lookup 138 (.map (some M3)) (.int .u8 (u.1.1.getD i 0).toNat) false).run prog B=.ok (U (lM (u.1.1.getD i 0))) B):=by intro i;obtain⟨c',V,h2,_⟩:=K3.lookup_int yP Tryz.underlying138 Tryz.underlying3 (jj _) (KF Tryz.underlying5 (a:=(u.1.1.getD i 0).toNat) (WalkArith.wf_u8 (by have:=(u.1.1.getD i 0).toNat_lt;omega)));obtain rfl:c'=lM (u.1.1.getD i 0):=ji (h2.symm.trans (Eh _));exact V
    clear kb c8 K3 hu;go_wp2;go_loop [18] (λkv=>∃k:Nat,k<=K/\kv=U k) (λkv=>K-(intOf kv).toNat)
    case atStart=>exact⟨0,Ks _,rfl⟩
    case round=>
     obtain⟨k,R,rfl⟩:=hrel;have k0:(0:Int)<=(k:Int):=by omega
     by_cases ne:k<K
     ·have k1:(k:Int)<(u.size:Int):=by omega
      have d2:=kd.o k;rw[kc.o k ne,Ak u k (by omega)] at d2;go_wp2;exact⟨⟨k+1,by omega,by go_num⟩,by simp[intOf];omega⟩
     obtain rfl:k=K:=by omega
     rcases fo.o with ⟨pn,kf⟩|⟨po,bk,z⟩
     ·have t:=Z (hy.o kf);have nf:¬((k:Int)<(u.size:Int)):=by omega
      have nl:((k:Int)==(u.size:Int))=true:=by simp;omega
      clear kf
      go_wp2_with (first
       |(go_at_call 85;go_must (refine Calls.mono (pM _ _) ?_;rintro e wz ⟨rfl,a5⟩;have⟨L,M⟩:=a6.o wz (l.th a5);have⟨n0,n1,dc,dd⟩:=ag L)))
      have⟨C,z0,z1⟩:=mF M L;refine Ka (v:=.tuple #[.agg #[nL,U 0],U 1]) ?_ rfl ⟨_,by rw[t.o],by rw[t.o];exact λ_ _ _=>bV _ _,by rw[ba];exact C⟩;rw[K8 rfl];go_simp
     have⟨ob,fp⟩:=nM (lM (u.1.1.getD k 0));rw[<-fp] at bk z;have d2:=kd.o k;rw[<-fp,Ak u k (by omega)] at d2;have ki:=Z fp;have k1:(k:Int)<(u.size:Int):=by omega
     have pp:(ob==0)=false:=by simpa using bk
     have nl:((k:Int)==(u.size:Int))=false:=by simp;omega
     have K2:B.ownsMap prog 9 (plainElem prog 3) M2 5 D2:=dO mT.o l (by omega);have de:(u.extract 0 k).size<=maxLen:=by have:=ai;simp;omega
     have b7:=mX (u.extract (k+1) u.size) (by simp;omega) B (n2.o B l);rw[rI] at b7;have hz:=Il (u.extract 0 k).1.1;have hB:(u.extract 0 k).1.1=u.1.1.take k:=A7 u k;rw[<-hB] at z;have⟨fx,kl⟩:=nM (bt fN (u.extract 0 k).1.1);rw[<-kl] at z hz;have g5:=Z hB;clear fp hB kl
     have ko:(fx<0/\Maps.has D2 (.string (u.extract 0 k).1.1)=false)\/Hid (0<=fx/\D2.atKey (.string (u.extract 0 k).1.1) Ib=.lit (.int .i64 fx))/\Maps.has D2 (.string (u.extract 0 k).1.1)=true:=by
      rcases hz with ⟨V,h2,h3⟩|h
      ·exact .inr ⟨⟨V,h3⟩,h2⟩
      exact .inl h
     clear hz
     rcases ko with ⟨ks,hC⟩|⟨kw,hC⟩
     ·have l0:Maps.has D2 (.string (u.1.1.take k))=false:=by rw[<-g5.o];exact hC
      have t:Hid (cG s.1.1=(([],0),1)):=hy.o (by rw[z];cases cS (u.1.1.drop (k+1)) with
       |none=>rfl
       |some m=>simp only[];rw[Io ks])
      have bm:Hid _:=b7;clear z ks b7 bk
      go_wp2_with (first
       |(at_lookup;refine La _ rfl _ _ 137 rfl 9 3 .i64 dH Tryz.underlying137 Tryz.underlying3 (jj _) M2 5 _ rfl K2 _ _ rfl (Ld Tryz.underlying9 de) ?_;go_must (intro fc ex g7))
       |(go_at_call 88;go_must (refine Calls.mono bm.o ?_;rintro e wj ⟨nn,fq,rfl,_,_,bo⟩))
       |(go_at_call 85;go_must (refine Calls.mono (pM _ _) ?_;rintro e wz ⟨rfl,a5⟩;have⟨L,M⟩:=a6.o wz (l.th (Below.tO bo a5 bo.size));have⟨n0,n1,dc,dd⟩:=ag L)))
      have⟨C,z0,z1⟩:=mF M L;refine Ka (v:=.tuple #[.agg #[nL,U 0],U 1]) ?_ rfl ⟨_,by rw[t.o],by rw[t.o];exact λ_ _ _=>bV _ _,by rw[ba];exact C⟩;rw[K8 rfl];go_simp
     have l0:Maps.has D2 (.string (u.1.1.take k))=true:=by rw[<-g5.o];exact hC
     cases hnd:cS (u.1.1.drop (k+1)) with
     |none=>
      rw[hnd] at z b7;have t:=Z (hy.o z)
      have bm:Hid (cL 88 #[.string (u.extract (k+1) u.size)] B λe w'=>∃nn,e=.returned (.tuple #[U nn,.bool false])/\Below B.1.size B w'):=by
       refine Calls.mono b7 ?_;rintro e w' ⟨nn,fq,rfl,V,_,h3⟩
       cases fq with
       |true=>cases V
       |false=>exact⟨nn,rfl,h3⟩
      clear z b7 hnd bk
      go_wp2_with (first
       |(at_lookup;refine La _ rfl _ _ 137 rfl 9 3 .i64 dH Tryz.underlying137 Tryz.underlying3 (jj _) M2 5 _ rfl K2 _ _ rfl (Ld Tryz.underlying9 de) ?_;go_must (intro fc ex g7))
       |(go_at_call 88;go_must (refine Calls.mono bm.o ?_;rintro e wj ⟨nn,rfl,bo⟩))
       |(go_at_call 85;go_must (refine Calls.mono (pM _ _) ?_;rintro e wz ⟨rfl,a5⟩;have⟨L,M⟩:=a6.o wz (l.th (Below.tO bo a5 bo.size));have⟨n0,n1,dc,dd⟩:=ag L)))
      have⟨C,z0,z1⟩:=mF M L;refine Ka (v:=.tuple #[.agg #[nL,U 0],U 1]) ?_ rfl ⟨_,by rw[t.o],by rw[t.o];exact λ_ _ _=>bV _ _,by rw[ba];exact C⟩;rw[K8 rfl];go_simp
     |some m=>
      rw[hnd] at z b7;have fr:Hid (cZ u.1.1=some (fx,ob,m)):=by unfold Hid;rw[z];simp only[];rw[iO (by have:=kw.o.1;omega)]
      have bm:Hid (cL 88 #[.string (u.extract (k+1) u.size)] B λe w'=>e=.returned (.tuple #[U m,.bool true])/\Below B.1.size B w'):=by
       refine Calls.mono b7 ?_;rintro e w' ⟨nn,fq,rfl,V,_,h3⟩
       cases fq with
       |true=>cases V;exact⟨rfl,h3⟩
       |false=>cases V
      clear z b7 hnd bk
      go_wp2_with (first
       |(at_lookup;refine La _ rfl _ _ 137 rfl 9 3 .i64 dH Tryz.underlying137 Tryz.underlying3 (jj _) M2 5 _ rfl K2 _ _ rfl (Ld Tryz.underlying9 de) ?_;go_must (intro fc ex g7;obtain rfl:fc=fx:=ji (ex.symm.trans kw.o.2)))
       |(go_at_call 88;go_must (refine Calls.mono bm.o ?_;rintro e wj ⟨rfl,bo⟩)))
      have pr:=bo.size;have⟨W0,hD⟩:=nM (wj.drew);have bp:Below B.1.size B W0:=by rw[hD];exact bo.drew
      have l1:Below Q W7 W0:=Below.tO df bp (by omega);have l2:Below wo.1.size wo W0:=l.th bp;have ey:Na W0 Q #[cv,U c] 131:=by have:=bp.block Q k4;rw[fl.o] at this;exact this
      have g8:W0.ownsRow (Q+1) 134 3 cv j (dP O):=aw di.o bp;have hE:W0.ownsMap prog 5 (plainElem prog 3) M3 4 D3:=dO jc.o l2 (by omega);have ps:Q+1<=W0.1.size:=by have:=bp.size;omega
      clear d2;have⟨W1,fv⟩:=nM (W0.alloc (.cells #[U fc,U ob,U m] 134));have al:=bA fv;have bq:=aw g8 al
      have l3:∀q v,[Value.int .i64 fc,U ob,U m][q]?=some v->W1.cell? (((pW W0 0):Addr).add q)=some v:=by
       intro q v hq;have:q<3:=by have:=(K9.1 hq).1;simpa using this
       have:q=0\/q=1\/q=2:=by omega
       rw[fv]
       rcases this with rfl|rfl|rfl<;>simp at hq<;>subst hq<;>simp[go_sem,Addr.add]
      have o1:j<=4294967280:=by have:=HN.o.2.2.2.1;omega
      obtain⟨en,eq,er,es,et⟩:=mJ;obtain⟨v2,W2,g0,d3,bz,o3⟩:=LB (P:=prog) W1 (Q+1) 129 129 134 en _ 3 24 Tryz.underlying129 eq er es et rfl (by decide) cv j (dP O) bq (pW W0 0) 1 1 [U fc,U ob,U m] rfl l3 (by simp[Value.oneCell']) (by have:=ai;omega) (by omega) (by have:=al.size;omega);have eF:Na W1 Q #[cv,U c] 131:=(al.block Q (by omega)).trans ey;have o4:=al.size
      have g9:cv.ownBlock≠some Q:=by
       intro h;obtain⟨_,⟨h2,_⟩|⟨g,eN,a1,rfl,h3,_⟩⟩:=bq
       ·rw[h2] at h;cases h
       simp[Value.ownBlock] at h;omega
      have br:Na W2 Q #[cv,U c] 131:=(bz.block Q (by omega) (λh=>g9 h.symm)).trans eF;have hF:=dO hE al (by omega)
      have gb:some M3≠cv.ownBlock:=by
       intro h;obtain⟨_,⟨h2,_⟩|⟨g,eN,a1,rfl,h3,_⟩⟩:=bq
       ·rw[h2] at h;cases h
       simp[Value.ownBlock] at h;omega
      have l4:=hF.kept bz gb;have lk:∀W,W.ownsMap prog 5 (plainElem prog 3) M3 4 D3->(Instr.lookup 138 (.map (some M3)) (.int .u8 (u[k]'(by omega)).toNat) false).run prog W=.ok (U ob) W:=by intro W hW;obtain⟨c',V,h2,_⟩:=hW.lookup_int yP Tryz.underlying138 Tryz.underlying3 (jj _) (KF Tryz.underlying5 (a:=(u.1.1.getD k 0).toNat) (WalkArith.wf_u8 (by have:=(u.1.1.getD k 0).toNat_lt;omega)));obtain rfl:c'=ob:=(ji (h2.symm.trans (Eh _))).trans ki.o.symm;rw[Ak u k (by omega)] at V;exact V
      have fd:=pB.ne W0 W1 W2;have q0:∀x:pB W0 W1 W2,x.1.cell? (pA Q 0)=some cv:=pB.all (p:=λw=>w.cell? (pA Q 0)=some cv) (ag ey).1 (ag eF).1 (ag br).1;have q1:∀x:pB W0 W1 W2,(Instr.lookup 138 (.map (some M3)) (.int .u8 (u[k]'(by omega)).toNat) false).run prog x.1=.ok (U ob) x.1:=pB.all (p:=λw=>(Instr.lookup 138 (.map (some M3)) (.int .u8 (u[k]'(by omega)).toNat) false).run prog w=.ok (U ob) w) (lk _ hE) (lk _ hF) (lk _ l4);have nf:(k:Int)<(u.size:Int):=by omega
      have no:=Z hD;have l5:=Z fv;have nr:=Z g0
      have l6:Hid (∀k,cv.ownBlock=some k->Q<=k):=by
       intro k h;obtain⟨_,⟨h2,_⟩|⟨g,eN,a1,rfl,h3,_⟩⟩:=bq
       ·rw[h2] at h;cases h
       simp[Value.ownBlock] at h;omega
      clear hE hF l4 lk ey eF g8 bq g9 gb hD fv g0 l3;refine oQ [_,_,_,_,_,_,_,_,_,_,_,_,_] _ rfl (λk=>k==10||k==11) (vL W0 W1 W2) (λw=>∃x:pB W0 W1 W2,w=x.1) (by kernel_rfl) (by kernel_rfl) Fa (.inl ⟨rfl,no.o.symm⟩) ?_;repeat(refine BT rfl rfl ?_;go_big_quiet_step (fail);refine Km ?_)
      refine yF rfl rfl (.slice (MZ W0) 1 1) (λw hw=>⟨W1,.inr (.inl ⟨rfl,rfl⟩),?_⟩) ?_
      ·rw[GF hw,l5.o];clear l5;go_simp
      refine yF rfl rfl v2 (λw hw=>⟨W2,.inr (.inr ⟨rfl,rfl⟩),?_⟩) ?_
      ·rw[GS hw];have g0:=nr.o;unfold execOp;simp only[resolve,invoke,builtin,Lj,My,LW,M4,Lt,Mz];exact(congrArg (λr=>Result.andThen r λv w=>.ok (Next.value v) w) g0)
      go_frame;repeat(refine BT rfl rfl ?_;go_big_quiet_step (fail);refine Km ?_)
      refine Ik ?_;intro wx e9;rw[H9 e9];clear q0 q1 fd e9 wx
      obtain⟨g2,bs,rfl⟩:∃g2 bs,v2=.slice (sO g2) (j+1) bs:=by
       obtain⟨_,⟨_,h0⟩|⟨g,eN,a1,V,_⟩⟩:=d3
       ·omega
       exact⟨g,eN,V⟩
      have o5:Q+1<=g2:=by
       obtain⟨_,⟨h0,_⟩|⟨g,eN,a1,V,h2,_⟩⟩:=d3
       ·cases h0
       cases V;exact h2
      have C:Below Q W7 (W2.setCell (pA Q 0) (.slice (sO g2) (j+1) bs)):=((Below.tO l1 al (by omega)).grown bz (by omega) (l6.o)).setCell lE _;have ge:=dC (u:=.slice (sO g2) (j+1) bs) br;have eO:=Mr d3 (a:=pA Q 0) (by simp[Value.ownBlock];omega) (.slice (sO g2) (j+1) bs);have o9:Q<W2.1.size:=io br;have⟨t0,_,t1,_⟩:=ag br;have l7:dP (O++[(fc,ob,m)])=dP O++[U fc,U ob,U m]:=by unfold dP;rw[Mg];simp
      rw[<-l7] at eO;have nv:Hid _:=C;have hG:Hid _:=ge;have hH:Hid _:=eO;clear C ge eO d3 br bz l7;go_wp2;exact⟨⟨j+1,_,O++[(fc,ob,m)],by omega,by go_num,lh cZ _ j _ na.o O fi.o (fc,ob,m) fr.o,by unfold Hid;rw[Kj,d1.o];rfl,nv.o,hG.o,hH.o,by simp;omega⟩,by simp[intOf];omega⟩
   obtain rfl:j=n:=by omega
   have l:Below wo.1.size wo B:=d0.trans (df.mono (by omega));have k5:=l.size;have ee:Hid (cC x=some (O,c)):=jb.o O (by have:=fi.o;rw[Ki (by rw[Lw,HN.o.2.2.2.2.1];exact Ke _)] at this;exact this);have c6:Na B A #[rv,U 0] 30:=(l.block A f4).trans HP.o;have ef:=aw HO.o l;have eg:B.ownsRow (Q+1) 134 3 cv O.length (dP O):=by rw[d1.o];exact di.o
   have ej:=cH.step (w':=B) (λg a1 _ hg=>l.block g (io hg)) _ _ HR.o;obtain⟨gc,ac,rfl,_,_,_⟩:=an di.o;have⟨p0,p1,h5,h6⟩:=ag c6;have⟨b0,b1,n4,n5⟩:=ag fl.o;have ek:Hid _:=c6;have a2:=Z ef;have el:=Z eg;have em:=Z ej;clear c6 ef eg ej;obtain⟨en,eq,er,es,et⟩:=jY
   have eu:Hid (∀X,X=Obj.cells #[.slice gc j ac,U c] 131->∀q v,[Value.slice gc j ac,U c][q]?=some v->(B.alloc X).cell? (((pW B 0):Addr).add q)=some v):=by
    intro X hX q v hq;subst hX;have:q<2:=by have:=(K9.1 hq).1;simpa using this
    have:q=0\/q=1:=by omega
    rcases this with rfl|rfl<;>simp at hq<;>subst hq<;>simp[go_sem,Addr.add]
   have bf:=Z λX=>aw a2.o (bR.alloc lE X)
   go_wp2_with (first
    |(at_builtin;refine wpList_append_own _ rfl _ _ 28 rfl (A+1) 131 en _ 2 32 Tryz.underlying28 eq er es et rfl (by decide) rv i xs rfl (bf.o _) (pW B 0) 1 1 [.slice gc j ac,U c] rfl rfl (eu.o _ rfl) (by simp[Value.oneCell']) (by have:=ai;have:=HN.o.1;omega) (by have:=HN.o.1;omega) (by simp;omega) ?_;go_must (intro v' wk ad ae ho;obtain⟨gk,capk,rfl,hgk⟩:=lY ad (by omega);have c7:=(ae.block A (by simp;omega) (λh=>by have:=eh a2.o A h.symm;omega)).trans ((Kq _ _ _ (by omega)).trans ek.o);have⟨k0,k1,n8,n9⟩:=ag c7)))
   have ew:∀ (g:Nat) (a1:Array Value),A+1<=g->Na B g a1 134->(wk.setCell (pA A 0) (.slice (sO gk) (i+1) capk)).1[g]?=B.1[g]?:=by intro g a1 hg hh;have hp:=io hh;rw[Kc _ _ _ _ (by show g≠A;omega),ae.block g (by simp;omega) (λh=>?_),Kq _ _ _ hp];have⟨k7,h'⟩:=cX a2.o g h.symm;rw[hh] at h';simp at h'
   have C:Below A W (wk.setCell (pA A 0) (.slice (sO gk) (i+1) capk)):=(((Below.tO bb l (by omega)).alloc (by omega) _).grown ae (by simp;omega) (λk R=>by have:=eh a2.o k R;omega)).setCell lE _;have hs:=bT (cU el.o (by omega:A+1<=Q+1)) ew;have ht:=cH.push (O,c) _ hs _ _ (cH.step ew _ _ em.o);obtain⟨ck,a4,fe,b3,c2,c1,ak⟩:=HN.o;refine⟨⟨i+1,dU (fV 59 aa),_,_,rs++[(O,c)],rfl,ak,by unfold Hid;rw[<-cT.o];rfl,lh cC T i x j4.o rs HA.o (O,c) ee.o,by rw[Kj,c1];rfl,by omega,C,dC c7,Mr ad (a:=pA A 0) (by simp[Value.ownBlock];omega) _,ht,by have:=io c7;simpa using this⟩,by simp only[DL];omega⟩
