import Derived.Test.YtnpgdnaeghilhaaGreatEq07
set_option maxHeartbeats 40000000
set_option maxRecDepth 1000000
namespace Go.Proofs.YtnpgdnaeghilhaaGreat
open Go.Proofs.Tryz Go.RowKit
attribute [local go_sem] Zc JR
theorem JT w u vr L(below:Bool)(hu:u<=7)(hL:L.length<=7)(hn:(if below then u+L.length+L.length else u+L.length)<=19)(hr:RowsAt w vr L)(hlen:∀i,i<L.length->(L.getD i []).length<=7)(e4:∀i,i<L.length->∀j∈L.getD i [],j<u):
 Cl 173 #[.agg #[ai u,vr,.bool below]] w λe w'=>∃V,e=.returned (.agg V)/\IsSx V L.length (if below then u+L.length+L.length else u+L.length) (yE u L below) (λi=>(if below then u+L.length+L.length else u+L.length)-L.length+i) (λ_=>false)/\Bl w w':=by
 obtain⟨n,b8⟩:=Ex (if below then u+L.length+L.length else u+L.length);obtain⟨a,cap,rfl,a9⟩:=hr;rw[<-b8]at hn |-;have e5:=qDU u L below n;have h0:=Yy u L below;generalize hm:L.length=m at *;have e6:Hh (∀wx,Cl 211 #[.agg #[ai u,.slice a m cap,.bool below]] wx λe w'=>e=.returned (ai (n:Nat))/\Bl wx w'):=by
  intro wx;have:=ZI wx u a m cap below hu hL;rw[<-b8]at this;exact this
 have HR:=ay a9;have HI:=ay e4;have h1:=ay hlen;have HN:=ay b8;have HM:=ay hm;have HP:=ay e5;clear a9 e4 hlen b8 hm e5 h0;go_enter func173,ntmps173;go_upto_region 1 with fail;rw[qFh];have h3:ArrAt ((w.alloc (.cells #[ai u,.slice a m cap,.bool below] 212)).alloc (.cells zSx 248)) w.1.size 3 (f3 (ai u) (.slice a m cap) (.bool below)):=(qj w 3 (f3 (ai u) (.slice a m cap) (.bool below)) 212).alloc Oo _;have d4:((w.alloc (.cells #[ai u,.slice a m cap,.bool below] 212)).alloc (.cells zSx 248)).there (w.1.size+1) 0 350:=by
  have:=yi (w.alloc (.cells #[ai u,.slice a m cap,.bool below] 212)) 248;rwa[show(w.alloc (.cells #[ai u,.slice a m cap,.bool below] 212)).1.size=w.1.size+1 by simp]at this
 have d5:Bl w ((w.alloc (.cells #[ai u,.slice a m cap,.bool below] 212)).alloc (.cells zSx 248)):=(aK).alloc Ss _;have d6:w.1.size+1<((w.alloc (.cells #[ai u,.slice a m cap,.bool below] 212)).alloc (.cells zSx 248)).1.size:=Ss;generalize (w.alloc (.cells #[ai u,.slice a m cap,.bool below] 212)).alloc (.cells zSx 248)=W at *;go_cut [3] (λv wc=>∃g,v=.pointer (some (az g 0))/\w.1.size+1<g/\Bl w wc/\wc.there (w.1.size+1) 0 350/\ArrAt wc w.1.size 3 (f3 (ai u) (.slice a m cap) (.bool below))/\(∀o,o<350->wc.cell? (az g o)=some (if o=0 then ai m else if o=1 then ai n else if o<330 then ai 0 else .bool false))/\∀o,o<350->wc.frozen? (az g o)=false)
 case first=>
  have h2:=h3.three;obtain⟨p0,p1,p2⟩:=h2;have b1:w.1.size<W.1.size:=Oo;have q0:∀o',(W.alloc o').cell? (az w.1.size 0)=some (ai u):=λo'=>(dR _ _ _ b1).trans p0;have q1:∀o',(W.alloc o').cell? (az w.1.size 1)=some (.slice a m cap):=λo'=>(dR _ _ _ b1).trans p1;have q2:∀o',(W.alloc o').cell? (az w.1.size 2)=some (.bool below):=λo'=>(dR _ _ _ b1).trans p2;go_region_law (first|(go_simp;go_at_call 211;apply (e6.o _).mono;rintro e w' ⟨rfl,hb⟩;have c9:=Xo m n _ _ (Qo w' 248);have h4:w.1.size<w'.1.size:=bN (by first|exact b1|(simp;omega)) hb.size;have r1:=(hb.cell (p:=(az w.1.size 1)) (by first|exact b1|(simp;omega))).trans (by first|exact p1|exact q1 _);have r2:∀o',(w'.alloc o').cell? (az w.1.size 1)=some (.slice a m cap):=λo'=>(dR _ _ _ h4).trans r1;try(have d2:=Xo m n w' W.1.size (qx (Qo W 248) (qf hb)))))
  all_goals(go_wp2;go_meet)
  all_goals first
   |(have e7:=d2;clear e7 d2 c9;exact⟨_,rfl,qHK m n d5 d4 h3 d6 (qf hb)⟩)
   |(clear c9;exact⟨_,rfl,qHJ m n d5 d4 h3 d6 (qf hb)⟩)
 case rest=>
  obtain⟨g,rfl,hg,e8,e9,f7,f8,f9⟩:=hcut;have d7:=Z0.start (m:=m) (n:=n) hL hn f8 f9;have c0:=d7.rows;have g5:=ay (And.intro e8 (And.intro e9 (And.intro f7 d7)));clear f8 f9 h3 d4 d5 d6 e8 e9 f7 d7;go_wp2;go_loopw [19] (λt wr=>∃i:Nat,i<=m+1/\t=ai i/\Hh (Bl w wr/\wr.there (w.1.size+1) 0 350/\ArrAt wr w.1.size 3 (f3 (ai u) (.slice a m cap) (.bool below))/\Z0 wr g m n i 0)) (λt _=>m+1-(intOf t).toNat);exact⟨0,Oo,rfl,g5⟩;clear g5 c0;obtain⟨i,hi,rfl,M⟩:=hrel;obtain⟨a4,a5,a7,a6⟩:=M.o;by_cases j0:i<m+1
  .have i1:(i:Int)<m+1:=Oo;have c1:=a6.cols;have HX:=ay M.o;clear M a4 a5 a7 a6;go_wp2;go_loopw [25] (λt wr=>∃j:Nat,j<=n+1/\t=ai j/\Hh (Bl w wr/\wr.there (w.1.size+1) 0 350/\ArrAt wr w.1.size 3 (f3 (ai u) (.slice a m cap) (.bool below))/\Z0 wr g m n i j)) (λt _=>n+1-(intOf t).toNat);exact⟨0,Oo,rfl,HX⟩;clear HX c1;obtain⟨j,hj,rfl,M⟩:=hrel;obtain⟨a4,a5,a7,a6⟩:=M.o;by_cases h5:j<n+1
   .have j1:(j:Int)<n+1:=Oo;have j2:(j:Int)<20:=Oo;have j3:(i:Int)<8:=Oo;have HX:=ay M.o;have h6:g<wr.1.size:=bL wr _ a6.rows;clear M a4 a5 a7 a6;go_wp2_with fail;go_region_law (first|go_simp;go_at_call 212;apply (yX 0).mono;rintro e w2 ⟨rfl,hb'⟩;have hb:=qf hb';have a8:=HX.o.2.2.2.below hb;obtain⟨z0,d0,-⟩:=a8.one (2+i*40+j*2) Oo;obtain⟨z1,d1,-⟩:=a8.one (2+i*40+j*2+1) Oo;have f0:=a8.free (2+i*40+j*2) Oo;have f1:=a8.free (2+i*40+j*2+1) Oo)
    all_goals
     have HF:Hh (Bl w ((w2.setCell (az g (2+i*40+j*2)) (ai 0)).setCell (az g (2+i*40+j*2+1)) (ai 1))/\((w2.setCell (az g (2+i*40+j*2)) (ai 0)).setCell (az g (2+i*40+j*2+1)) (ai 1)).there (w.1.size+1) 0 350/\ArrAt ((w2.setCell (az g (2+i*40+j*2)) (ai 0)).setCell (az g (2+i*40+j*2+1)) (ai 1)) w.1.size 3 (f3 (ai u) (.slice a m cap) (.bool below))/\Z0 ((w2.setCell (az g (2+i*40+j*2)) (ai 0)).setCell (az g (2+i*40+j*2+1)) (ai 1)) g m n i (j+1)):=
      ay ⟨((bt HX.o.1 hb).setCell (by show w.1.size<=g;omega) _).setCell (by show w.1.size<=g;omega) _,xm (xm (qx HX.o.2.1 hb)),((HX.o.2.2.1.below Oo hb).move (bD _ _ _ _ (by show w.1.size≠g;omega))).move (bD _ _ _ _ (by show w.1.size≠g;omega)),a8.step Oo Oo hL hn⟩
     clear hb hb' a8
     go_wp2
     go_roundw;exact⟨j+1,Oo,Gg,HF⟩;exact Im
   obtain rfl:j=n+1:=Oo;have j1:¬((n:Int)+1<(n:Int)+1):=Oo;have HX:Hh (Bl w wr/\wr.there (w.1.size+1) 0 350/\ArrAt wr w.1.size 3 (f3 (ai u) (.slice a m cap) (.bool below))/\Z0 wr g m n (i+1) 0):=ay ⟨a4,a5,a7,a6.next⟩;clear M a4 a5 a7 a6;go_wp2;go_roundw;exact⟨i+1,Oo,Gg,HX⟩;exact Im
  obtain rfl:i=m+1:=Oo;have i1:¬((m:Int)+1<(m:Int)+1):=Oo;have p1:=a7.three.2.1;have HX:Hh (STt w wr g (f3 (ai u) (.slice a m cap) (.bool below)) m n (x9 u L below 0 0) (λq=>if q<0 then n-m+q else 0)):=ay ⟨a4,a5,a7,(a6.done hL hn).congr (λi j _ _=>Yy u L below i j) (λi _=>fF Oo) (λ_ _=>rfl),hg⟩;clear M a4 a5 a7 a6;go_wp2;go_loopw [39] (λt wr=>∃i:Nat,i<=m/\t=ai i/\Hh (STt w wr g (f3 (ai u) (.slice a m cap) (.bool below)) m n (x9 u L below i 0) (λq=>if q<i then n-m+q else 0))) (λt _=>m-(intOf t).toNat);exact⟨0,Oo,rfl,HX⟩;clear HX p1;obtain⟨i,hi,rfl,M⟩:=hrel;by_cases K:i<m
  .have i2:(i:Int)<m:=Oo;obtain⟨b,o,x,rfl,hx,a2,i7,rfl,g6⟩:=HR.o i K;have h7:b<w.1.size:=bL w _ hx;have cx:=(M.o.bel.cell (p:=(az b (o+i))) h7).trans hx;have d8:=ay g6;clear g6 hx;obtain⟨l,hl⟩:=Ex (L.getD i []);rw[<-hl]at cx d8;have HL:=ay hl;clear hl;obtain⟨ln,b9⟩:=Ex l.length;rw[<-b9]at cx d8;have c7:=ay b9;have j4:ln<=7:=by rw[b9,HL.o];exact h1.o i K
   clear b9;have HX:=M;clear M;go_wp2;go_loopw [46] (λt wr=>∃q:Nat,q<=ln/\t=ai q/\Hh (STt w wr g (f3 (ai u) (sZ b o m cap) (.bool below)) m n (x9 u L below i q) (λq=>if q<i then n-m+q else 0))) (λt _=>ln-(intOf t).toNat);exact⟨0,Oo,rfl,HX⟩;clear HX cx;obtain⟨q,hq,rfl,M⟩:=hrel;by_cases d9:q<ln
   .have q1:(q:Int)<ln:=Oo;obtain⟨b2,o2,rfl,hy⟩:=d8.o q d9;have cy:=(M.o.bel.cell (p:=(az b2 (o2+q))) (bL w _ hy)).trans hy;have h8:l.getD q 0<u:=by
     refine HI.o i K _ ?_;rw[<-HL.o,gD,gE (by rw[<-c7.o];exact d9)];exact gM _
    have h5:u<=n:=by rw[HN.o];split <;> omega
    obtain⟨y,e3⟩:=Ex (l.getD q 0);rw[<-e3]at cy h8;have HY:=ay e3;have j2:(y:Int)<20:=Oo;have j3:(i:Int)<8:=Oo;have HX:=M;clear M e3 hy;go_wp2_with fail;go_region_law (first|go_simp;go_at_call 212;apply (yX (1)).mono;rintro e w2 ⟨rfl,hb'⟩;have hb:=qf hb';have I:=HX.o.below hb;obtain⟨d0,d1,f0,f1⟩:=I.cells (i:=i) (j:=y) Oo Oo)
    all_goals
     have HF:=ay ((I.put (i:=i) (j:=y) Oo Oo 1).congr (C':=x9 u L below i (q+1)) (λa b _ _=>by rw[qBx u L below i q (by rw[<-HL.o,<-c7.o];exact d9),<-HL.o,<-HY.o]) (λ_ _=>rfl))
     clear hb hb' I d0 d1 f0 f1
     go_wp2
     go_roundw;exact⟨q+1,Oo,Gg,HF⟩;exact Im
   obtain rfl:q=ln:=Oo;have q1:¬((q:Int)<q):=Oo;obtain⟨e0,e1,e2⟩:=M.o.arg.three;have HX:=M;have j5:u+m<=n:=by rw[HN.o];split <;> omega
   have i3:(i:Int)<8:=Oo;have h6:g<wr.1.size:=bL wr _ M.o.sx.lay.rows;clear M;obtain⟨z,hz⟩:=Ex (n-m+i:Nat);have h9:(n:Int)-(m:Int)+(i:Int)=z:=Oo;have j6:z<n:=Oo;have i8:(z:Int)<20:=Oo;have HZ:=ay hz;have b7:Hh ((n:Int)-(m:Int)+(i:Int)=z):=ay Oo;clear hz h9;have c1:=HX.o.sx.lay.cols;have c0:=HX.o.sx.lay.rows;have cb:=HX.o.sx.lay.bas i K;have fb:=HX.o.sx.free (322+i) Oo;cases below
   case false=>
    go_upto_region 22 with fail;have O:=ay (HX.o.bas K z);rw[b7.o];clear HX c0 c1 cb fb;have HX:=O;clear O;generalize wr.setCell (az g (322+i)) (ai (z:Nat))=w3 at *;have c1:=HX.o.sx.lay.cols;have cb:w3.cell? (az g (322+i))=some (ai (z:Nat)):=(HX.o.sx.lay.bas i K).trans Ss;go_region_law (first|go_simp;go_at_call 212;apply (yX (1)).mono;rintro e w2 ⟨rfl,hb'⟩;have hb:=qf hb';have I:=HX.o.below hb;obtain⟨d0,d1,f0,f1⟩:=I.cells (i:=i) (j:=z) Oo Oo;have g1:=I.sx.lay.cols;have g2:w2.cell? (az g (322+i))=some (ai (z:Nat)):=(I.sx.lay.bas i K).trans Ss)
    all_goals
     have O:=ay (I.put (i:=i) (j:=z) Oo Oo 1)
     go_upto_region 23 with fail
     clear HX c1 cb hb hb' I d0 d1 f0 f1 g1 g2
     have HX:=O
     clear O
     change Code.wp _ _ _ _ ((w2.setCell (az g (2+i*40+z*2)) (ai (1:Rat).num)).setCell (az g (2+i*40+z*2+1)) (ai (1:Rat).den))
     generalize (w2.setCell (az g (2+i*40+z*2)) (ai (1:Rat).num)).setCell (az g (2+i*40+z*2+1)) (ai (1:Rat).den)=w5 at *
     have c1:=HX.o.sx.lay.cols
     have n20:(n:Int)<20:=Oo
     go_region_law (first|go_simp;go_at_call 212;apply (yX (1)).mono;rintro e w2 ⟨rfl,hb'⟩;have hb:=qf hb';have I:=HX.o.below hb;obtain⟨d0,d1,f0,f1⟩:=I.cells (i:=i) (j:=n) Oo Oo;have g1:=I.sx.lay.cols)
     all_goals
      have HF:=ay ((I.put (i:=i) (j:=n) Oo Oo 1).congr (C':=x9 u L false (i+1) 0) (B':=λa=>if a<i+1 then n-m+a else 0) (λa b _ _=>by rw[HP.o i HN.o K (HI.o i K),<-HL.o,<-c7.o,<-HZ.o];first|rfl|simp) (λa _=>Yw HZ.o a))
      clear hb hb' I d0 d1 f0 f1 g1
      go_wp2
      go_roundw;exact⟨i+1,Oo,Gg,HF⟩;exact Im
   case true=>
    obtain⟨y,hy⟩:=Ex (u+i:Nat);have k0:y<=n:=Oo;have i9:(y:Int)<20:=Oo;have k3:IntKind.i64.wrap ((u:Int)+(i:Int))=(y:Int):=by rw[show(u:Int)+(i:Int)=(y:Int)by omega];exact wrap_small y Oo
    have HY:=ay hy;clear hy;go_upto_region 20 with fail;go_region_law (first|go_simp;go_at_call 212;apply (yX (-1)).mono;rintro e w2 ⟨rfl,hb'⟩;have hb:=qf hb';have I:=HX.o.below hb;obtain⟨d0,d1,f0,f1⟩:=I.cells (i:=i) (j:=y) Oo Oo;have g0:=I.sx.lay.rows;have g1:=I.sx.lay.cols;have g2:=I.sx.lay.bas i K;have g3:=I.sx.free (322+i) Oo;have g4:=I.arg.three.1)
    all_goals
     have g7:Hh (STt w ((w2.setCell (az g (2+i*40+y*2)) (ai (-1))).setCell (az g (2+i*40+y*2+1)) (ai 1)) g (f3 (ai u) (sZ b o m cap) (.bool true)) m n (λa' b'=>if a'=i/\b'=y then (-1) else x9 u L true i q a' b') (λq=>if q<i then n-m+q else 0)):=ay (I.put (i:=i) (j:=y) Oo Oo (-1))
     clear HX c0 c1 cb fb hb hb' I d0 d1 f0 f1 g0 g1 g2 g3 g4 e0 e1 e2
     have HX:=g7
     clear g7
     generalize (w2.setCell (az g (2+i*40+y*2)) (ai (-1))).setCell (az g (2+i*40+y*2+1)) (ai 1)=w4 at *
     have c1:=HX.o.sx.lay.cols
     have c0:=HX.o.sx.lay.rows
     have cb:=HX.o.sx.lay.bas i K
     have fb:=HX.o.sx.free (322+i) Oo
     go_upto_region 22 with fail
     have O:=ay (HX.o.bas K z)
     rw[b7.o]
     clear HX c0 c1 cb fb
     have HX:=O
     clear O
     generalize w4.setCell (az g (322+i)) (ai (z:Nat))=w3 at *
     have c1:=HX.o.sx.lay.cols
     have cb:w3.cell? (az g (322+i))=some (ai (z:Nat)):=(HX.o.sx.lay.bas i K).trans Ss
     go_region_law (first|go_simp;go_at_call 212;apply (yX (1)).mono;rintro e w2 ⟨rfl,hb'⟩;have hb:=qf hb';have I:=HX.o.below hb;obtain⟨d0,d1,f0,f1⟩:=I.cells (i:=i) (j:=z) Oo Oo;have g1:=I.sx.lay.cols;have g2:w2.cell? (az g (322+i))=some (ai (z:Nat)):=(I.sx.lay.bas i K).trans Ss)
     all_goals
      have O:=ay (I.put (i:=i) (j:=z) Oo Oo 1)
      go_upto_region 23 with fail
      clear HX c1 cb hb hb' I d0 d1 f0 f1 g1 g2
      have HX:=O
      clear O
      change Code.wp _ _ _ _ ((w2.setCell (az g (2+i*40+z*2)) (ai (1:Rat).num)).setCell (az g (2+i*40+z*2+1)) (ai (1:Rat).den))
      generalize (w2.setCell (az g (2+i*40+z*2)) (ai (1:Rat).num)).setCell (az g (2+i*40+z*2+1)) (ai (1:Rat).den)=w5 at *
      have c1:=HX.o.sx.lay.cols
      have n20:(n:Int)<20:=Oo
      go_region_law (first|go_simp;go_at_call 212;apply (yX (1)).mono;rintro e w2 ⟨rfl,hb'⟩;have hb:=qf hb';have I:=HX.o.below hb;obtain⟨d0,d1,f0,f1⟩:=I.cells (i:=i) (j:=n) Oo Oo;have g1:=I.sx.lay.cols)
      all_goals
       have HF:=ay ((I.put (i:=i) (j:=n) Oo Oo 1).congr (C':=x9 u L true (i+1) 0) (B':=λa=>if a<i+1 then n-m+a else 0) (λa b _ _=>by rw[HP.o i HN.o K (HI.o i K),<-HL.o,<-c7.o,<-HZ.o,<-HY.o];first|rfl|simp) (λa _=>Yw HZ.o a))
       clear hb hb' I d0 d1 f0 f1 g1
       go_wp2
       go_roundw;exact⟨i+1,Oo,Gg,HF⟩;exact Im
  obtain rfl:i=m:=Oo;have i2:¬((i:Int)<i):=Oo;have g8:SxAt wr g i n (yE u L below) (λq=>n-i+q) (λ_=>false):=M.o.sx.congr (λa b ha _=>by
   unfold x9;by_cases e:a<i;rw[fE e];obtain rfl:a=i:=Oo;rw[fF e];unfold yE;rw[fF (show ¬a<L.length by rw[HM.o];exact e),fF Ss]) (λa ha=>(fE ha).symm) (λ_ _=>rfl)
  have a4:=M.o.bel;have a5:=M.o.oth;obtain⟨cz,c8⟩:=Ex (cellsOf wr g);have a3:cz.length=350:=by rw[c8];exact yD _ _
  have i0:Hh (wr.rangeAt g 0 cz):=by rw[c8];exact jS g8
  have d3:IsSx cz.toArray i n (yE u L below) (λq=>n-i+q) (λ_=>false):=by rw[c8];exact Vs g8
  have i4:=ay d3.one;have g9:Hh (wr.there (w.1.size+1) 0 cz.toArray.size):=by
   rw[show cz.toArray.size=350 by simpa using a3];exact a5
  have b7:Hh ((Tryz.prog.info? 248).map (·.size)=some cz.length):=by
   show _=_;rw[a3];exact jI
  have i5:Hh ((Tryz.prog.info? 248).map (·.size)=some cz.toArray.size):=by
   show _=_;rw[show cz.toArray.size=350 by simpa using a3];exact jI
  clear c8;have k4:=ay a3;clear a3;go_wp2_with (first|refine wpList_load_mid rfl 248 _ rfl g 0 Fl cz _ (by exact i0.o) underlying248 Fl (by exact b7.o) ?_|refine wpList_store_mid rfl 248 _ _ rfl (w.1.size+1) 0 cz.toArray Fl Fl (by exact g9.o) (by exact i5.o) (by exact i4.o) ?_);have i6:(wr.setCells (w.1.size+1) 0 cz.toArray.toList).rangeAt (w.1.size+1) 0 cz:=by
   have:=World.rangeAt_setCells_same wr (w.1.size+1) 0 cz.toArray.toList (by have:=g9.o;simpa using this);simpa using this
  refine bodyPost_ret (v:=.agg cz.toArray) (kF results173 (w.1.size+1) cz Fl i6 underlying248 Fl b7.o) rfl ⟨_,rfl,d3,xX Oo _ _ _ a4⟩
section
variable {B cap g i m n u a b j r k:Nat}{I bar:NB}{A C:NQ}{f cost:NR}{w wr wx w':World}{ps:LI}{vb:Value}{bs:LL}{v:Int}{xs:LV}{Q:Exit->Act->WP}{s:Cov.Sx}{below:Bool}{L:List (LN)}{l:List (Nat×Nat×Int)}
def xI(v:Int)(bs:LL)(ps:LI)(i:Nat):Bool:=decide (v∈bs.getD i [])&&!(decide (0<=ps.getD i 0)&&decide (v∈bs.getD (ps.getD i 0).toNat []))
def qu(v:Int)(bs:LL)(ps:LI):NN
 |0=>0
 |n+1=>qu v bs ps n+if xI v bs ps n then 1 else 0
def uK(k:Int)(bs:LL)(ps:LI):Bool:=(List.range k.toNat).all λv=>decide (qu (v:Int) bs ps bs.length=1)
def zm(h:Int)(e:LI)(bs:LL):Bool:=if e.length=0 then decide (h=-1) else decide (0<=h)&&decide (h<(bs.length:Int))&&e.all λx=>decide (x∈bs.getD h.toNat [])
def yp(hs:LI)(es bs:LL):Bool:=decide (hs.length=es.length)&&(List.range es.length).all λi=>zm (hs.getD i 0) (es.getD i []) bs
theorem Q3 v bs ps:∀n,qu v bs ps n<=n
 |0=>eA
 |n+1=>by
  have:=Q3 v bs ps n;unfold qu;split <;> omega
def Q4(ps:LI)(n:Nat):Prop:=ps.length=n/\∀i,i<n->ps.getD i 0=-1\/(0<=ps.getD i 0/\ps.getD i 0<(n:Int))
theorem qGP(h:xH ps n=true):Q4 ps n:=by
 unfold xH at h;rw[bV,dE,aT]at h;have hl:ps.length=n:=Oo;refine⟨hl,λi hi=>?_⟩;have:=h.2 i (by simpa[hl]using hi);unfold vH at this;rw[Bool.or_eq_true,bV,dE,dE,dE]at this;omega
theorem qAz{vp}vh vw x n d(hb:ISS w vb bs)(hl:qS bs)(a9:bs.length<=12)(hp:IS w vp ps)(c9:Q4 ps bs.length):
 aG 107 #[ai x,.agg #[vb,vp,vh,vw,ai n,ai d]] w (ai (qu x bs ps bs.length)):=by
 have V:Hh (Bl w (w.alloc (.cells #[vb,vp,vh,vw,ai n,ai d] 38))):=aK;have c0:(w.alloc (.cells #[vb,vp,vh,vw,ai n,ai d] 38)).cell? (az w.1.size 0)=some vb:=by rw[eH rfl];rfl
 have c1:(w.alloc (.cells #[vb,vp,vh,vw,ai n,ai d] 38)).cell? (az w.1.size 1)=some vp:=by rw[eH rfl];rfl
 have⟨W,hW⟩:=Ex (w.alloc (.cells #[vb,vp,vh,vw,ai n,ai d] 38));rw[<-hW]at V c0 c1;have⟨b1,a5⟩:=c9;have d0:=hp.below V;have d1:=hb.below V;clear hb hp;obtain⟨a,cap,rfl,hc⟩:=d1;obtain⟨a2,e0,rfl,a7⟩:=d0;rw[b1]at a7 c1;have⟨d2,b7⟩:=hl;have b9:=ay a5;change Hh _ at hc a7 b7;have HT:Hh (∀i,qu x bs ps (i+1)=qu x bs ps i+if xI x bs ps i then 1 else 0):=λi=>rfl;have d3:=ay (Q3 x bs ps);have d4:Hh (∀i,xI x bs ps i=(decide (x∈bs.getD i [])&&!(decide (0<=ps.getD i 0)&&decide (x∈bs.getD (ps.getD i 0).toNat [])))):=λi=>rfl;have d5:Hh (qu x bs ps 0=0):=rfl;have⟨m,hm⟩:=Ex bs.length;have a6:ps.length=m:=Oo;rw[<-hm]at hc a7 b9 d2 a9 c0 c1 hW |-;rw[a6]at hW |-;clear a5 b1 hm a6;generalize qu x bs ps=TN at *;go_enter func107,ntmps107;go_upto_region 1 with fail;rw[<-hW];clear hW;go_wp2;go_loop [5,13] (λs t=>∃j:Nat,j<=m/\t=ai j/\s=ai (TN j)) (λ_ t=>m-(intOf t).toNat);exact⟨0,eC,rfl,by rw[d5.o];rfl⟩;obtain⟨j,hj,rfl,rfl⟩:=hrel;by_cases a8:j<m
 .have i1:=aV a8;rcases hc.o with h0|⟨b,o,rfl,I⟩;omega;rcases a7.o with h0|⟨b2,o2,rfl,K⟩;omega;change Hh _ at I;have⟨u,e1,hu⟩:=I j a8;have e2:=K j a8;have c7:=ay (xt W u _ x hu (b7 j));obtain⟨a3,e4,rfl,-⟩:=hu;have a5:=b9 j a8;have O:=d4 j;have M:=HT j;have e6:=d3 j;clear K;generalize (bs.getD j []).length=lj at *;generalize decide (x∈bs.getD j [])=f1,ps.getD j 0=y,xI x bs ps j=tp at *;rcases a5 with rfl|⟨d7,e7⟩
  .rw[show(decide ((0:Int)<=-1))=false by decide,Bool.false_and,Bool.not_false,Bool.and_true]at O;subst O;go_wp2_with fail;apply c7.o.mn;intro w1 hw1;subst w1;cases tp
   .go_wp2;go_round;exact⟨j+1,Oo,Gg,by rw[M];simp⟩;exact Im
   go_wp2;go_round;exact⟨j+1,Oo,Gg,by rw[M];simp⟩;exact Im
  obtain⟨z,rfl⟩:∃z:Nat,y=(z:Int):=⟨y.toNat,Oo⟩;have⟨u2,e3,c8⟩:=I z Oo;rw[show((z:Int)).toNat=z by omega]at O;have d9:=ay (xt W _ _ x c8 (b7 z));obtain⟨a4,e5,rfl,-⟩:=c8;generalize (bs.getD z []).length=lz,decide (x∈bs.getD z [])=f2 at *;rw[fD d7,dG]at O;go_wp2_with fail;apply d9.o.mn;intro w1 hw1;subst w1;go_wp2_with fail;apply c7.o.mn;intro w1 hw1;subst w1;cases f1 <;> cases f2 <;> (subst O)
  .go_wp2;go_round;exact⟨j+1,Oo,Gg,by rw[M];simp⟩;exact Im
  .go_wp2;go_round;exact⟨j+1,Oo,Gg,by rw[M];simp⟩;exact Im
  .go_wp2;go_round;exact⟨j+1,Oo,Gg,by rw[M];simp⟩;exact Im
  go_wp2;go_round;exact⟨j+1,Oo,Gg,by rw[M];simp⟩;exact Im
 obtain rfl:j=m:=Oo;have i1:=aY j;go_wp2;go_ret;exact⟨rfl,V⟩
theorem Jo{vp}O V k n d(hk:k<=6)(hb:ISS w vb bs)(hl:qS bs)(a5:bs.length<=12)(hp:IS w vp ps)(K:Q4 ps bs.length):
 aG 78 #[ai k,.agg #[vb,vp,O,V,ai n,ai d]] w (.bool (uK k bs ps)):=by
 have a3:Hh (Bl w (w.alloc (.cells #[vb,vp,O,V,ai n,ai d] 38))):=aK;have c0:(w.alloc (.cells #[vb,vp,O,V,ai n,ai d] 38)).cell? (az w.1.size 0)=some vb:=by rw[eH rfl];rfl
 have c1:(w.alloc (.cells #[vb,vp,O,V,ai n,ai d] 38)).cell? (az w.1.size 1)=some vp:=by rw[eH rfl];rfl
 have c2:(w.alloc (.cells #[vb,vp,O,V,ai n,ai d] 38)).cell? (az w.1.size 2)=some O:=by rw[eH rfl];rfl
 have c3:(w.alloc (.cells #[vb,vp,O,V,ai n,ai d] 38)).cell? (az w.1.size 3)=some V:=by rw[eH rfl];rfl
 have c4:(w.alloc (.cells #[vb,vp,O,V,ai n,ai d] 38)).cell? (az w.1.size 4)=some (ai n):=by rw[eH rfl];rfl
 have c5:(w.alloc (.cells #[vb,vp,O,V,ai n,ai d] 38)).cell? (az w.1.size 5)=some (ai d):=by rw[eH rfl];rfl
 have⟨W,hW⟩:=Ex (w.alloc (.cells #[vb,vp,O,V,ai n,ai d] 38));rw[<-hW]at a3 c0 c1 c2 c3 c4 c5;have HP:=ay (hp.below a3);have a6:=ay (hb.below a3);have HL:=ay hl;have a7:=ay K;have⟨res,M⟩:=Ex (uK k bs ps);rw[<-M];have HF:Hh (∀v:Nat,v<k.toNat->qu (v:Int) bs ps bs.length≠1->res=false):=λv hv e=>by
  rw[M];unfold uK;exact qe hv (by simpa using e)
 have HT:Hh ((∀v:Nat,v<k.toNat->qu (v:Int) bs ps bs.length=1)->res=true):=λh1=>by
  rw[M];unfold uK;exact qh (λv hv=>by simpa using h1 v hv)
 clear hb hp hl K M;go_enter func78,ntmps78;go_upto_region 1 with fail;rw[<-hW];clear hW;go_wp2;go_loopw [7] (λt wr=>∃v:Nat,(v=0\/v<=k.toNat)/\t=ai v/\Bl W wr/\Hh (∀i:Nat,i<v->qu (i:Int) bs ps bs.length=1)) (λt _=>k.toNat-(intOf t).toNat);exact⟨0,.inl rfl,rfl,eB,ay (λi hi=>Oo)⟩;obtain⟨v,hv,rfl,I,K⟩:=hrel;by_cases a8:(v:Int)<k
 .have d0:=qF I c0;have d1:=qF I c1;have d2:=qF I c2;have d3:=qF I c3;have d4:=qF I c4;have d5:=qF I c5;have KT:=ay (qAz O V v n d (a6.o.below I) HL a5 (HP.o.below I) a7);have fin:=HF v Oo;have nxt:qu (v:Int) bs ps bs.length=1->Hh (∀i:Nat,i<v+1->qu (i:Int) bs ps bs.length=1):=λe i hi=>by
   by_cases e2:i=v;rw[e2];exact e;exact K i Oo
  have a9:=Q3 v bs ps bs.length;clear K;generalize qu (v:Int) bs ps bs.length=tn at *;by_cases ht:tn=1
  .have hf:=nxt ht;subst ht;clear fin nxt;go_wp2_with fail;apply KT.o.mn;intro w1 a4;go_wp2;go_roundw;exact⟨v+1,Oo,Gg,bt I a4,hf⟩;exact Im
  obtain rfl:=fin ht;have e1:((tn:Int) != 1)=true:=Sy;clear nxt;go_wp2_with fail;apply KT.o.mn;intro w1 a4;go_wp2;go_ret;exact⟨rfl,bt a3 (bt I a4)⟩
 obtain rfl:=HT (λi hi=>K i Oo);clear K;go_wp2;go_ret;exact⟨rfl,bt a3 I⟩
theorem qGQ{bag I:LI}:decide ((plc (λi=>decide (I.getD i 0∈bag)) I.length).length=I.length)=I.all λx=>decide (x∈bag):=by
 have h:(plc (λi=>decide (I.getD i 0∈bag)) I.length).length=I.length↔∀i,i<I.length->I.getD i 0∈bag:=by
  unfold plc;rw[lM];have e:I.length=(List.range I.length).length:=Ss;constructor
  .intro h i hi
   have:=(List.length_filter_eq_length_iff.1 (by rw[h];exact e)) i (by simpa using hi);simpa using this
  intro h;have:((List.range I.length).filter λi=>decide (I.getD i 0∈bag)).length=(List.range I.length).length:=List.length_filter_eq_length_iff.2 (λi hi=>by simpa using h i (by simpa using hi));rw[this,<-e]
 cases hb:(I.all λx=>decide (x∈bag))
 refine fC λO=>?_;rw[List.all_eq_false]at hb;have⟨x,V,K⟩:=hb;have⟨i,hi,e⟩:=yw V;exact K (by rw[<-e];simpa using h.1 O i hi);refine fD (h.2 λi hi=>?_);rw[aT]at hb;simpa using hb _ (yT hi)
theorem qA0 ve h{e}(he:IS w ve e)(hle:e.length<=1099511627776)(hb:ISS w vb bs)(hl:qS bs):
 Cl 108 #[ai h,ve,vb] w λr w'=>r=.returned (.bool (zm h e bs))/\Bl w w':=by
 have HE:=ay he;obtain⟨a,cap,rfl,-⟩:=he;obtain⟨a2,a7,rfl,hc⟩:=hb;have⟨a9,a4⟩:=hl;have⟨res,I⟩:=Ex (zm h e bs);rw[<-I];by_cases h0:e.length=0
 .have K:res=decide (h=-1):=by rw[I];unfold zm;rw[fE h0]
  clear I hc HE;rw[h0];by_cases V:h=-1
  .rw[fD V]at K;subst V K;go_enter func108,ntmps108;go_wp2;go_ret;exact⟨rfl,eB⟩
  rw[fC V]at K;subst K;have e1:(h == -1)=false:=by simpa using V
  go_enter func108,ntmps108;go_wp2;go_ret;exact⟨qJ Ss,eB⟩
 have K:res=(decide (0<=h)&&decide (h<(bs.length:Int))&&e.all λx=>decide (x∈bs.getD h.toNat [])):=by rw[I];unfold zm;rw[fF h0]
 have d0:¬((e.length:Int)=0):=Oo;clear I;by_cases V:0<=h
 case neg=>
  rw[fC V,Bool.false_and,Bool.false_and]at K;subst K;clear hc HE;generalize e.length=n at *;go_enter func108,ntmps108;go_wp2;go_ret;exact⟨rfl,eB⟩
 by_cases h2:h<(bs.length:Int)
 case neg=>
  rw[fC h2,Bool.and_false,Bool.false_and]at K;subst K;clear hc HE;generalize e.length=n at *;go_enter func108,ntmps108;go_wp2;go_ret;exact⟨rfl,eB⟩
 rw[fD V,fD h2,dG,dG]at K;obtain⟨z,rfl⟩:∃z:Nat,h=(z:Int):=⟨h.toNat,Oo⟩;rw[show((z:Int)).toNat=z by omega,<-qGQ]at K;rcases hc with b1|⟨b,o,rfl,M⟩;omega;have⟨u,c1,hu⟩:=M z Oo;have KP:=ay (zq w _ u e _ HE hu hle (a4 z));obtain⟨a3,a8,rfl,-⟩:=hu;have hlen:=xq (λi=>decide (e.getD i 0∈bs.getD z [])) e.length;clear M HE;generalize (bs.getD z []).length=lz,plc (λi=>decide (e.getD i 0∈bs.getD z [])) e.length=pl at *;change Hh _ at K;clear a4;generalize e.length=n,bs.length=nb at *;go_enter func108,ntmps108;go_wp2_with fail;apply KP.o.mono;rintro r w1 ⟨v,rfl,O,a6⟩;obtain⟨av,cv,rfl⟩:∃a c,v=.slice a pl.length c:=by
  rcases O.2 with ⟨rfl,hn⟩|⟨g,cap,cur,rfl,_⟩;exact⟨none,0,by rw[hn]⟩;exact⟨_,cap,rfl⟩
 clear O;generalize pl.length=m at *;go_wp2;go_ret;refine⟨qJ ?_,a6⟩;rw[K.o];by_cases a5:m=n;subst a5;simp;rw[fC a5];simp;omega
theorem UI{vh ve hs es}(hh:IS w vh hs)(he:ISS w ve es)(hle:qS es)(hb:ISS w vb bs)(hl:qS bs):
 Cl 79 #[vh,ve,vb] w λr w'=>r=.returned (.bool (yp hs es bs))/\Bl w w':=by
 have a8:=ay hb;change Hh _ at hl;obtain⟨ab,b7,rfl,-⟩:=hb;obtain⟨ah,b8,rfl,a6⟩:=hh;obtain⟨a,cap,rfl,hc⟩:=he;have⟨a9,a7⟩:=hle;have⟨res,M⟩:=Ex (yp hs es bs);rw[<-M];have HR:=ay M;have HC:=ay hc;have a3:=ay a6;have b1:=ay a7;clear hc a6 a7 M;by_cases hq:hs.length=es.length
 case neg=>
  have hf:res=false:=by rw[HR.o];unfold yp;rw[fC hq];rfl
  subst hf;have i1:((hs.length:Int) != (es.length:Int))=true:=Sy;generalize hs.length=n1,es.length=n2 at *;go_enter func79,ntmps79;go_wp2;go_ret;exact⟨rfl,eB⟩
 have HF:Hh (∀j,j<es.length->zm (hs.getD j 0) (es.getD j []) bs=false->res=false):=λj hj e=>by
  rw[HR.o];unfold yp;rw[qe hj e];simp
 have HT:Hh ((∀j,j<es.length->zm (hs.getD j 0) (es.getD j []) bs=true)->res=true):=λh1=>by
  rw[HR.o];unfold yp;rw[fD hq,qh h1];rfl
 clear HR;rw[hq]at a3 |-;have⟨n,hn⟩:=Ex es.length;have d1:((n:Int) != (n:Int))=false:=Ss;rw[<-hn]at HF HT a9 HC a3 |-;clear hn hq;go_enter func79,ntmps79;go_wp2;go_loopw [16] (λt wr=>∃j:Nat,j<=n/\t=ai j/\Bl w wr/\Hh (∀i,i<j->zm (hs.getD i 0) (es.getD i []) bs=true)) (λt _=>n-(intOf t).toNat);exact⟨0,eC,rfl,eB,ay (λi hi=>Oo)⟩;obtain⟨j,hj,rfl,I,V⟩:=hrel;by_cases a4:j<n
 .have i1:=aV a4;rcases HC.o with h0|⟨b,o,rfl,O⟩;omega;rcases a3.o with h0|⟨b2,o2,rfl,K⟩;omega;have⟨u,e1,hu⟩:=O j a4;have c1:=qF I e1;have c2:=qF I (K j a4);have KH:=ay (qA0 u (hs.getD j 0) (hu.below I) (b1 j) (a8.o.below I) hl);obtain⟨a1,b9,rfl,-⟩:=hu;have fin:=HF j a4;have nxt:zm (hs.getD j 0) (es.getD j []) bs=true->Hh (∀i,i<j+1->zm (hs.getD i 0) (es.getD i []) bs=true):=λe i hi=>by
   by_cases e2:i=j;rw[e2];exact e;exact V i Oo
  clear O K V e1;generalize (es.getD j []).length=m,zm (hs.getD j 0) (es.getD j []) bs=y at *;generalize hs.getD j 0=x at *;cases y
  .obtain rfl:=fin rfl;clear nxt;go_wp2_with fail;apply KH.o.mn;intro w1 a5;go_wp2;go_ret;exact⟨rfl,bt I a5⟩
  have hf:=nxt rfl;clear fin nxt;go_wp2_with fail;apply KH.o.mn;intro w1 a5;go_wp2;go_roundw;exact⟨j+1,Oo,Gg,bt I a5,hf⟩;exact Im
 obtain rfl:j=n:=Oo;obtain rfl:=HT V;have i1:=aY j;clear V;go_wp2;go_ret;exact⟨rfl,I⟩
def zC:Value:=.agg #[ai 0,ai 0,ai 0,ai 0,ai 0,ai 0,ai 0,ai 0,ai 0,ai 0,ai 0,ai 0,ai 0,ai 0,ai 0,ai 0,ai 0,ai 0,ai 0,ai 0]
theorem XL:zC.cells.size=20:=rfl
theorem Tryz.infoCs:(Tryz.prog.info? 253).map (λi=>(i.zero,i.size,i.bytes))=some (some zC,20,160):=Kl
theorem qG8 a b v w:(Instr.buildSlice 250 1 #[(0,.agg (qR a b v).toArray)]).run Tryz.prog w=.ok (sZ w.1.size 0 1 1) (w.alloc (.cells (qR a b v).toArray 253)):=Kl
theorem vg:∀u∈qR a b v,u.oneCell'=true:=by
 intro u I;unfold qR zL at I;obtain⟨j,-,rfl⟩:=cC.1 I;rfl
theorem zB:(qR a b v).length=20:=jA _ _
def yg(u m n:Nat)(below:Bool):List (Nat×Nat×Int):=if below then [(n-m,n,1),(0,u,1)] else [(0,u,-1)]
def zA(u m n:Nat)(below:Bool)(k:Nat):List (Nat×Nat×Int):=yg u m n below++(List.range k).map λj=>(j,j+1,1)
def xP(l:List (Nat×Nat×Int)):LV:=l.flatMap λt=>qR t.1 t.2.1 t.2.2
theorem Yh u m n below k:zA u m n below (k+1)=zA u m n below k++[(k,k+1,1)]:=by
 unfold zA;rw[dQ,mA,<-dN];rfl
theorem j8 u m n below k:(zA u m n below k).length=k+(if below then 2 else 1):=by
 unfold zA yg;cases below <;> simp
theorem Ui l t:xP (l++[t])=xP l++qR t.1 t.2.1 t.2.2:=by
 unfold xP;rw[dM];simp
theorem kZ t:∀j u,xs[j]?=some u->(w.alloc (.cells xs.toArray t)).cell? (((az w.1.size 0):Addr).add j)=some u:=by
 have:=World.news_of_block (dZ w (.cells xs.toArray t));simpa using this
theorem qFY a b c d v v':∃Z,List.foldl (λ(cs:AV) (x:Value×Nat)=>cs.setIfInBounds x.snd x.fst) #[ai 0,ai 0,ai 0,ai 0,ai 0,ai 0,ai 0,ai 0,ai 0,ai 0,ai 0,ai 0,ai 0,ai 0,ai 0,ai 0,ai 0,ai 0,ai 0,ai 0,ai 0,ai 0,ai 0,ai 0,ai 0,ai 0,ai 0,ai 0,ai 0,ai 0,ai 0,ai 0,ai 0,ai 0,ai 0,ai 0,ai 0,ai 0,ai 0,ai 0] (qR a b v).zipIdx=Z/\Z.size=40/\List.foldl (λ(cs:AV) (x:Value×Nat)=>cs.setIfInBounds (20+x.snd) x.fst) Z (qR c d v').zipIdx=(qR a b v++qR c d v').toArray:=⟨_,rfl,Kl,Kl⟩
theorem qIc{op:Oper}{act}{K:Act->WP}x a b v(ho:op.op=.buildSlice 250 1 #[(0,x)])(I:act.eval x=.agg (qR a b v).toArray)
 (h:K (act.put op.dst (sZ w.1.size 0 1 1)) (w.alloc (.cells (qR a b v).toArray 253))):op.wp Tryz.prog act w K Q:=by
 have e:(#[(0,x)]:Array (Nat×Operand)).map (λp=>(p.1,act.eval p.2))=#[(0,.agg (qR a b v).toArray)]:=by simp[I]
 unfold Oper.wp execOp;simp only[ho,Sem.run_bind,Sem.run_pure];rw[e,qG8];exact h
theorem Qk{ops rest op act}(I:op.guard=none){x}a b v(ho:op.op=.buildSlice 250 1 #[(0,x)])(K:act.eval x=.agg (qR a b v).toArray)
 (h:wpList Tryz.prog ops Q rest (act.put op.dst (sZ w.1.size 0 1 1)) (w.alloc (.cells (qR a b v).toArray 253))):wpList Tryz.prog ops Q (op::rest) act w:=
 wpList_plain I λ_ M=>qIc x a b v ho K (M _ _ h)
theorem qDG w(u m:Nat)(a:OA)cap(hu:u<=7):
 Cl 174 #[.agg #[ai u,.slice a m cap,.bool false]] w λe w'=>∃v,e=.returned v/\w'.ownsRow w.1.size 253 20 v (u+1) (xP (zA u m (u+m) false u))/\Bl w w':=by
 obtain⟨i0,hi,a6,a7,a8⟩:=info_parts Tryz.infoCs;have a9:Bl w (w.alloc (.cells #[ai u,.slice a m cap,.bool false] 212)):=aK;have b1:(w.alloc (.cells #[ai u,.slice a m cap,.bool false] 212)).cell? (az w.1.size 0)=some (ai u):=Sg;have b7:w.1.size<(w.alloc (.cells #[ai u,.slice a m cap,.bool false] 212)).1.size:=Ss;have HX:=ay (And.intro a9 (And.intro b1 b7));clear a9 b1 b7;go_enter func174,ntmps174;go_wp2_with (first|go_at_call 213;apply (xl _ 0 u (-1) Oo).mono;rintro e w2 ⟨rfl,hb⟩|refine Qk rfl 0 u _ rfl Fl ?_|at_builtin;refine wpList_append_own _ rfl _ _ 250 rfl w.1.size 253 _ _ _ _ underlying250 hi a6 a7 a8 XL Dd _ _ _ rfl eK (az _ 0) 1 1 (qR 0 u (-1)) rfl ?c0 ?c1 ?c2 ?c3 ?c4 ?c5 ?_)
 case c0=>rw[zB]
 case c1=>exact kZ _
 case c2=>exact vg
 case c3=>unfold maxLen;omega
 case c4=>omega
 case c5=>have:=hb.size;simp at this |-;omega
 intro v1 w3 K I _;have b8:Bl w w3:=by
  have a4:=bt HX.1 hb;exact(a4.alloc a4.size _).grown I (by have:=a4.size;simp;omega) (λj hj=>by cases hj)
 have O:w3.ownsRow w.1.size 253 20 v1 1 (xP (zA u m (u+m) false 0)):=by
  have:xP (zA u m (u+m) false 0)=[]++qR 0 u (-1):=by simp[xP,zA,yg]
  rw[this];exact K
 have c3:aC w3 w.1.size 0 (ai u):=by
  have h1:=HX.2.2;have h2:=hb.size;have e1:w3.1[w.1.size]?=w2.1[w.1.size]?:=(I.block _ (by simp at h1 h2 |-;omega) (by simp[Value.ownBlock])).trans (eL Oo);exact(bF e1).trans ((hb.cell h1).trans HX.2.1)
 clear K I hb HX;go_wp2;go_loopw [3,32] (λv t wr=>∃k:Nat,k<=u/\t=ai k/\wr.ownsRow w.1.size 253 20 v (k+1) (xP (zA u m (u+m) false k))/\Bl w wr) (λ_ t _=>u-(intOf t).toNat);exact⟨0,nZ _,rfl,O,b8⟩;clear c3 O b8;obtain⟨k,hk,rfl,K,a3⟩:=hrel;have c7:=a3.size;by_cases c8:k<u
 .have i1:=aV c8;have HS:Hh (xP (zA u m (u+m) false (k+1))=xP (zA u m (u+m) false k)++qR k (k+1) 1):=ay (by rw[Yh,Ui]);have K1:Hh (∀W,Cl 213 #[ai (k:Nat),ai ((k:Int)+1),ai 1] W λe w'=>e=.returned (.agg (qR k (k+1) 1).toArray)/\Bl W w'):=ay (λW=>xl W k (k+1) 1 Oo);go_wp2_with (first|go_at_call 213;apply (K1.o _).mn;intro w2 hb;have M:=qB K hb;have a5:=bt a3 hb;have hs2:=a5.size|refine Qk rfl k _ 1 rfl Fl ?_|at_builtin;refine wpList_append_own _ rfl _ _ 250 rfl w.1.size 253 i0 zC 20 160 underlying250 hi a6 a7 a8 XL Dd _ _ _ rfl (M.alloc _) (az w2.1.size 0) 1 1 (qR k (k+1) 1) rfl ?c0 ?c1 ?c2 ?c3 ?c4 ?c5 ?_)
  case c0=>rw[zB]
  case c1=>exact kZ _
  case c2=>exact vg
  case c3=>unfold maxLen;omega
  case c4=>omega
  case c5=>simp;omega
  intro v' w1 V I _;have b9:=zW hs2 M a5 I;rw[<-HS.o]at V;clear I K M hb a5 a3;go_wp2;go_roundw;exact⟨k+1,Oo,Gg,V,b9⟩;exact Im
 obtain rfl:k=u:=Oo;have i1:=aY k;go_wp2;go_ret;exact⟨_,rfl,K,a3⟩
theorem qEH w(u m:Nat)(a:OA)cap(hu:u<=7)(hm:m<=6):
 Cl 174 #[.agg #[ai u,.slice a m cap,.bool true]] w λe w'=>∃v,e=.returned v/\w'.ownsRow w.1.size 253 20 v (u+2) (xP (zA u m (u+m+m) true u))/\Bl w w':=by
 have⟨i0,hi,b9,c7,c8⟩:=aX Tryz.infoCs;have a3:Hh (∀wx,Cl 211 #[.agg #[ai u,.slice a m cap,.bool true]] wx λe w'=>e=.returned (ai ((u+m+m:Nat):Int))/\Bl wx w'):=ay (λwx=>ZI _ u a m _ _ hu Oo);have a9:ArrAt (w.alloc (.cells #[ai u,.slice a m cap,.bool true] 212)) w.1.size 3 (f3 (ai u) (.slice a m cap) (.bool true)):=qj w 3 (f3 (ai u) _ _) _;have c9:Bl w (w.alloc (.cells #[ai u,.slice a m cap,.bool true] 212)):=aK;have d3:w.1.size<(w.alloc (.cells #[ai u,.slice a m cap,.bool true] 212)).1.size:=Ss;have⟨M,d4⟩:=Ex (u+m+m);rw[<-d4]at a3 |-;have⟨nm,d5⟩:=Ex (M-m);have f7:M<=19:=Oo;have hle:(m:Int)<=M:=Oo;have d6:Hh ((M:Int)-(m:Int)=nm):=ay Oo;have d7:=ay d5;clear d4 d5;go_enter func174,ntmps174;go_upto_region 3 with fail;generalize w.alloc (.cells #[ai u,.slice a m cap,.bool true] 212)=W at *;obtain⟨e0,e1,e2⟩:=a9.three;go_cut [4] (λv wc=>v=ai nm/\Bl w wc/\ArrAt wc w.1.size 3 (f3 (ai u) (.slice a m cap) (.bool true)))
 case first=>
  go_region_law (first|go_simp;go_at_call 211;apply (a3.o _).mn;intro w' hb;have r1:=(hb.cell d3).trans e1)
  all_goals
   go_wp2
   go_meet
   exact⟨by rw[d6.o,wrap_small nm (O1 d7.o)],bt c9 (qf hb),a9.below Oo (qf hb)⟩
 case rest=>
  obtain⟨rfl,d8,V⟩:=hcut;have e3:=ay V;obtain⟨d0,d1,d2⟩:=V.three;have e4:w.1.size<wc.1.size:=bL _ _ d0;have K1:=ay (λW=>xl W nm M 1 Oo);have K2:Hh (∀W,Cl 213 #[ai 0,ai (u:Nat),ai 1] W λe w'=>e=.returned (.agg (qR 0 u 1).toArray)/\Bl W w'):=ay (λW=>xl W 0 u 1 Oo);have e5:Bl wc wc.drew:=eB.drew;have L1:(qR nm M 1).length=20:=zB;have L2:(qR 0 u 1).length=20:=zB;obtain⟨Z1,L3,L4⟩:=qFY nm M 0 u 1 1;have L5:=L4.1;clear d3 c9 a9 e0 e1 e2;go_upto_region 4 with fail;go_cut [3] (λv wx=>wx.ownsRow w.1.size 253 20 v 2 (xP (zA u m M true 0))/\Bl w wx/\aC wx w.1.size 0 (ai u))
  case first=>
   go_region_law (first
    |(refine step_append_lies _ Fl _ _ _ Fl w.1.size 253 _ _ _ _ underlying250 hi b9 c7 c8 XL Dd sn 0 _ Fl eK _ 2 2 _ Fl (by rw[lA,zB,zB]) (kZ 253) (λx hx=>by rcases cF.1 hx with h|h;exact vg x h;exact vg x h) Dd Um Oo (by have:=K.size;simp at this |-;omega) _ rfl ?_;intro g3 cp3 w4 b1 I f8 f9)
    |(go_simp;go_at_call 211;with_reducible apply (a3.o _).mn;intro w1 e6;have K:=bt (by assumption) e6;have a4:=V.below Oo K;obtain⟨g0,g1,g2⟩:=a4.three)
    |(go_simp;go_at_call 213;with_reducible apply (K1.o _).mn;intro w2 e7;have K:=bt (by assumption) e7;have a4:=V.below Oo K;obtain⟨g0,g1,g2⟩:=a4.three)
    |(go_simp;go_at_call 213;with_reducible apply (K2.o _).mn;intro w3 e8;have K:=bt (by assumption) e8;obtain⟨g0,g1,g2⟩:=(V.below Oo K).three))
   all_goals
    go_wp2
    go_meet
    have b7:Bl w _:=bt d8 K
    refine⟨?_,(b7.alloc b7.size _).grown I (by have:=b7.size;simp;omega) (λj hj=>by cases hj),?_⟩
    .have:xP (zA u m M true 0)=[]++(qR nm M 1++qR 0 u 1):=by simp[xP,zA,yg,d7.o]
     rw[this];exact b1
    exact(bF ((I.block _ (by have:=K.size;show w.1.size<_;simp;omega) (by simp[Value.ownBlock])).trans (eL (by have:=K.size;show w.1.size<_;omega)))).trans g0
  case rest=>
   obtain⟨a5,d9,c3⟩:=hcut;clear e3 d0 d1 d2 e4 e5 K1 K2 d8 V;go_wp2;go_loopw [3,32] (λv t wr=>∃k:Nat,k<=u/\t=ai k/\wr.ownsRow w.1.size 253 20 v (k+2) (xP (zA u m M true k))/\Bl w wr) (λ_ t _=>u-(intOf t).toNat);exact⟨0,eC,rfl,a5,d9⟩;clear c3 a5 d9;obtain⟨k,hk,rfl,a6,a8⟩:=hrel;have g4:=a8.size;by_cases g5:k<u
   .have i1:=aV g5;have HS:Hh (xP (zA u m M true (k+1))=xP (zA u m M true k)++qR k (k+1) 1):=ay (by rw[Yh,Ui]);have K1:Hh (∀W,Cl 213 #[ai (k:Nat),ai ((k:Int)+1),ai 1] W λe w'=>e=.returned (.agg (qR k (k+1) 1).toArray)/\Bl W w'):=ay (λW=>xl W k (k+1) 1 Oo);go_wp2_with (first|go_at_call 213;apply (K1.o _).mn;intro w2 hb;have O:=qB a6 hb;have b8:=bt a8 hb;have hs2:=b8.size|refine Qk rfl k _ 1 rfl Fl ?_|at_builtin;refine wpList_append_own _ rfl _ _ 250 rfl w.1.size 253 i0 zC 20 160 underlying250 hi b9 c7 c8 XL Dd _ _ _ rfl (O.alloc _) (az w2.1.size 0) 1 1 (qR k (k+1) 1) rfl ?c0 ?c1 ?c2 ?c3 ?c4 ?c5 ?_)
    case c0=>rw[zB]
    case c1=>exact kZ _
    case c2=>exact vg
    case c3=>unfold maxLen;omega
    case c4=>omega
    case c5=>simp;omega
    intro v' w1 a7 I _;have e9:=zW hs2 O b8 I;rw[<-HS.o]at a7;clear I a6 O hb b8 a8;go_wp2;go_roundw;exact⟨k+1,Oo,Gg,a7,e9⟩;exact Im
   obtain rfl:k=u:=Oo;have i1:=aY k;go_wp2;go_ret;exact⟨_,rfl,a6,a8⟩
theorem Tryz.infoFr:(Tryz.prog.info? 210).map (λi=>(i.zero,i.size,i.bytes))=some (some (.agg #[ai 0,ai 0]),2,16):=Kl
def jT(C:NQ)(B:NN)(n:Nat):NQ
 |0,_=>0
 |i+1,j=>if B i=j then C i n else jT C B n i j
structure FrAt(w:World)(g u:Nat)(f:NR):Prop where
 num:∀j,j<u->w.cell? (az g (j*2))=some (ai (f j).num)
 den:∀j,j<u->w.cell? (az g (j*2+1))=some (ai (f j).den)
 free:∀q,q<u*2->w.frozen? (az g q)=false
theorem FrAt.set(h:FrAt w g u f)(hi:i<u)q:
 FrAt ((w.setCell (az g (i*2)) (ai q.num)).setCell (az g (i*2+1)) (ai q.den)) g u (λj=>if i=j then q else f j) where
 num j hj:=by
  show _=some (ai (if i=j then q else f j).num);by_cases e:i=j;subst e;rw[fE rfl,eE Nq];exact bG _ _ _ (h.num i hi);rw[fF e,eE Nq,eE Nq];exact h.num j hj
 den j hj:=by
  show _=some (ai ((if i=j then q else f j).den:Nat));by_cases e:i=j;subst e;rw[fE rfl];refine bG _ _ _ (u:=ai (f i).den) ?_;rw[eE Nq];exact h.den i hi;rw[fF e,eE Nq,eE Nq];exact h.den j hj
 free q hq:=by rw[fS,fS];exact h.free q hq
theorem FrAt.drew(h:FrAt w g u f):FrAt w.drew g u f:=⟨h.num,h.den,h.free⟩
theorem qJe n j(h:j<n*2):(madeCells #[ai 0,ai 0] (n*2)).toList[j]?=some (ai 0):=by
 rw[dY];simp only[madeCells];rw[Array.getElem?_map,Array.getElem?_range,fE h];rcases Nat.mod_two_eq_zero_or_one j with e|e;simp[e];simp[e]
theorem Kz k m n u C{B}(h:SxAt w k m n C B bar)(hu:u<=1000)(d5:u<=n):
 aF 176 #[.pointer (some (az k 0)),ai u] w (sZ w.1.size 0 u u) λw'=>FrAt w' w.1.size u (jT C B n m)/\w.1.size<w'.1.size/\Bl w w':=by
 have⟨i0,hi,c7,c8,c9⟩:=aX Tryz.infoFr;have d6:=h.lay.mle;have d4:=h.lay.nle;have HS:=ay h;have d7:=h.lt;clear h;go_enter func176,ntmps176;go_wp2_with (at_make;refine wpList_make_full _ rfl _ _ 208 rfl _ 210 _ _ 2 underlying208 hi c7 c8 _ _ _ _ u rfl rfl rfl rfl ?b2 ?b3 eA ?_)
 case b2=>rw[c9];omega
 case b3=>unfold maxLen;omega
 intro w0 M a6;have a9:w.1.size<w0.1.size:=(M.lt _ rfl).2;have b9:(∀q,q<u*2->w0.cell? (az w.1.size q)=some (ai 0))/\∀q,w0.frozen? (az w.1.size q)=false:=
  ⟨λq hq=>by rw[M.cellAt q hq];exact qJe u q hq,λq=>M.frozenAt q⟩
 have a7:=ay (And.intro (eB.grown a6 eA (λj hj=>by cases hj)) (And.intro a9 b9));clear M a6 a9 b9;go_wp2;go_loopw [12] (λt wr=>∃j:Nat,j<=u/\t=ai j/\Hh (Bl w wr/\w.1.size<wr.1.size/\(∀q,q<u*2->∃z,aC wr w.1.size q (ai z))/\(∀q,wr.frozen? (az w.1.size q)=false)/\∀i,i<j->aC wr w.1.size (i*2) (ai 0)/\aC wr w.1.size (i*2+1) (ai 1))) (λt _=>u-(intOf t).toNat);exact⟨0,eC,rfl,ay ⟨a7.1,a7.2.1,λq hq=>⟨0,a7.2.2.1 q hq⟩,a7.2.2.2,λi hi=>Oo⟩⟩;clear a7;obtain⟨j,hj,rfl,hH⟩:=hrel;have⟨K,O,b7,a3,V⟩:=hH.o;by_cases d8:j<u
 .have i1:=aV d8;have HX:=ay hH.o;clear hH K b7 a3 V;go_wp2_with fail;apply (yX 0).mn;intro w2 hb;have⟨z0,d0⟩:=HX.2.2.1 (j*2) Oo;have⟨z1,d1⟩:=HX.2.2.1 (j*2+1) Oo;have c0:=(hb.cell O).trans d0;have c1:=(hb.cell O).trans d1;have f0:=(hb.frozen O).trans (HX.2.2.2.1 (j*2));have f1:=(hb.frozen O).trans (HX.2.2.2.1 (j*2+1));have HB:=ay hb;have hs2:=hb.size;clear hb d0 d1;go_wp2;go_roundw
  case rel=>
   have ne:∀(X:World) (a b:Nat) (v:Value),a≠b->(sC X w.1.size b v).cell? (az w.1.size a)=X.cell? (az w.1.size a):=λX a b v hab=>eE (by intro e2;simp only[Addr.mk.injEq]at e2;omega);refine⟨j+1,Oo,Gg,ay ⟨((bt HX.o.1 HB.o).setCell eA _).setCell eA _,by simp[World.setCell];omega,λq hq=>?_,λq=>by rw[fS,fS];exact(HB.o.frozen O).trans (HX.2.2.2.1 q),λi hi=>?_⟩⟩
   .have⟨z,hz⟩:=HX.2.2.1 q hq;by_cases e1:q=j*2+1;subst e1;exact⟨_,eJ ((ne _ _ _ _ Oo).trans c1)⟩;by_cases e2:q=j*2;subst e2;exact⟨_,(ne _ _ _ _ Oo).trans (eJ c0)⟩;exact⟨z,(ne _ _ _ _ e1).trans ((ne _ _ _ _ e2).trans ((HB.o.cell O).trans hz))⟩
   by_cases e:i=j;subst e;exact⟨(ne _ _ _ _ Oo).trans (eJ c0),eJ ((ne _ _ _ _ Oo).trans c1)⟩;have⟨h1,h2⟩:=HX.2.2.2.2 i Oo;exact⟨(ne _ _ _ _ Oo).trans ((ne _ _ _ _ Oo).trans ((HB.o.cell O).trans h1)),(ne _ _ _ _ Oo).trans ((ne _ _ _ _ Oo).trans ((HB.o.cell O).trans h2))⟩
  case measure=>simp[intOf];omega
 obtain rfl:j=u:=Oo;have i1:=aY j;have a4:=HS.o.below K;have c0:=a4.lay.rows;have I:Hh (FrAt wr w.1.size j (jT C B n 0)):=⟨λi hi=>(V i hi).1,λi hi=>(V i hi).2,λq _=>a3 q⟩;have a5:=ay K;clear hH K b7 a3 V a4;go_wp2;go_loopw [24] (λt wr=>∃i:Nat,i<=m/\t=ai i/\w.1.size<wr.1.size/\Hh (Bl w wr/\FrAt wr w.1.size j (jT C B n i))) (λt _=>m-(intOf t).toNat);exact⟨0,eC,rfl,O,ay ⟨a5,I⟩⟩;clear a5 I;obtain⟨i,d9,rfl,a8,hH⟩:=hrel;have⟨K,a3⟩:=hH.o;by_cases d3:i<m
 .have i2:=aV d3;have i8:(i:Int)<8:=Oo;have i20:(n:Int)<20:=Oo;have a4:=HS.o.below K;have b1:=a4.lay.bas i d3;have b2:=a4.lay.cols;have b3:=a4.lay.num i n Oo eA;have b4:=a4.lay.den i n Oo eA;have I:=ay a3;have a5:=ay K;clear hH K a3 a4;by_cases hB:B i<j
  .have i3:(B i:Int)<(j:Int):=Oo;have c1:=I.o.num _ hB;have c2:=I.o.den _ hB;have f1:=I.o.free (B i*2) Oo;have f2:=I.o.free (B i*2+1) Oo;go_wp2_with fail;go_region
   go_wp2;go_roundw;exact⟨i+1,Oo,Gg,by simpa[World.setCell]using a8,ay ⟨((a5.o.setCell eA _).setCell eA _).drew,FrAt.drew (I.o.set hB _)⟩⟩;exact Im
  have i3:¬((B i:Int)<(j:Int)):=Oo;go_wp2;go_roundw;exact⟨i+1,Oo,Gg,a8,ay ⟨a5,⟨λq hq=>by rw[show jT C B n (i+1) q=jT C B n i q from fF Oo];exact I.o.num q hq,λq hq=>by rw[show jT C B n (i+1) q=jT C B n i q from fF Oo];exact I.o.den q hq,I.o.free⟩⟩⟩;exact Im
 obtain rfl:i=m:=Oo;have i2:=aY i;have I:=ay a3;have a5:=ay K;clear hH K a3;go_wp2;go_ret;exact⟨rfl,I,a8,a5⟩
def inc(L:List (LN))(r e:Nat):Rat:=if e∈L.getD r [] then 1 else 0
theorem ZY(l:LN)x:(l.contains x=true)=(x∈l):=Ss
theorem qBs u L i j(hi:i<L.length)(O:j<=u+L.length):yE u L false i j=Cov.packA L.length u (inc L) j i:=by
 unfold yE Cov.packA inc;simp only[Bool.false_eq_true,if_false,ZY,false_and];rw[fE hi];by_cases K:j=u+L.length;rw[fE K,fF Oo,fF Oo];rw[fF K];by_cases I:j<u;rw[fE I,fE I];rw[fF I,fF I,fE (show j<u+L.length by omega)];by_cases M:j-u=i;rw[fE M,fE Oo];rw[fF M,fF Oo]
theorem Kq u L i j(hi:i<L.length)(V:j<=u+L.length+L.length):yE u L true i j=Cov.coverA L.length u (inc L) j i:=by
 unfold yE Cov.coverA inc;simp only[if_true,ZY,true_and];rw[fE hi];by_cases M:j=u+L.length+L.length;rw[fE M,fF Oo,fF Oo,fF Oo];rw[fF M];by_cases K:j<u;rw[fE K,fE K];rw[fF K,fF K];by_cases O:j<u+L.length
 .rw[fE O,fF Oo];by_cases I:j-u=i;rw[fE I,fE Oo];rw[fF I,fF Oo]
 rw[fF O,fE (show j<u+L.length+L.length by omega)];by_cases I:j-u-L.length=i;rw[fE I,fE Oo];rw[fF I,fF Oo,fF Oo]
theorem Uu:∀{l:List (NR)} {c:NR} {bar K I:NB} {s s1 M:Cov.Sx},Cov.Aims m n l bar s K s1->Cov.Aim m n c K s1 I M->Cov.Aims m n (l++[c]) bar s I M
 |[],_,_,_,_,_,_,_,h,h2=>by
  obtain⟨rfl,rfl⟩:=h;exact⟨_,_,h2,rfl,rfl⟩
 |_::_,_,_,_,_,_,_,_,h,h2=>by
  have⟨b,s,O,V⟩:=h;exact⟨b,s,O,Uu V h2⟩
theorem qFe{M}(h:Cov.Good m n A bar s)(O:Cov.Aim m n cost bar s I M):Cov.Good m n A I M/\Cov.Good m n A bar M:=by
 have⟨k,h1,_,V,h4⟩:=O;have K:Cov.Good m n A bar M:=by rw[V];exact h.it k
 refine⟨⟨K.inv,K.feas,λi hi=>?_⟩,K⟩;rw[h4];unfold Cov.narrowed;rw[K.open' i hi,K.inv.red_basic cost hi];simp
theorem Kr a b v:rc (xh a b v)=Cov.cf a b ((v:Int):Rat):=by
 funext j;unfold rc xh Cov.cf;split <;> rfl
def Qm(l:List (Nat×Nat×Int)):List (NR):=l.map λt=>rc (xh t.1 t.2.1 t.2.2)
theorem qEM u m n:Qm (zA u m n false u)=Cov.cf 0 u (-1)::Cov.units u:=by
 unfold Qm zA yg Cov.units;simp only[Bool.false_eq_true,if_false,List.map_cons,List.map_map,List.cons_append,List.nil_append,Kr];congr 1
theorem qDP u m:Qm (zA u m (u+m+m) true u)=Cov.cf (u+m) (u+m+m) 1::Cov.cf 0 u 1::Cov.units u:=by
 unfold Qm zA yg Cov.units;simp only[if_true,List.map_cons,List.map_map,List.cons_append,List.nil_append,Kr];rw[show u+m+m-m=u+m by omega];congr 1
theorem Uv(hv:v.natAbs<=1)j:(xh a b v j).natAbs<=1:=by
 unfold xh;split;exact hv;simp
theorem qEN u m n k:∀t∈zA u m n below k,t.2.2.natAbs<=1:=by
 intro t I;unfold zA yg at I;rcases cF.1 I with h|h
 .cases below
  simp at h;subst h;simp;simp at h;rcases h with rfl|rfl <;> simp
 obtain⟨j,-,rfl⟩:=cC.1 h;simp
theorem X7{B}:∀{m:Nat},(∀i,i<m->∀k,k<m->B i=B k->i=k)->∀j,jT C B n m j=Cov.val m (λi=>C i n) B j
 |0,_,_=>rfl
 |m+1,hB,j=>by
  have I:=X7 (m:=m) (λi hi k O e=>hB i Oo k Oo e) j;show(if B m=j then C m n else jT C B n m j)=Cov.sm m (λi=>if B i=j then C i n else 0)+(if B m=j then C m n else 0);rw[I];unfold Cov.val;by_cases e:B m=j
  .have K:Cov.sm m (λi=>if B i=j then C i n else 0)=0:=Cov.sm_zero (λi hi=>fF (λM=>by
    have:=hB i Oo m Oo (M.trans e.symm);omega))
   simp only[K,fE e];grind
  simp only[fF e];grind
theorem Uw L r e:Cov.Whole 1 (inc L r e):=by
 unfold inc;split;exact⟨1,rfl,Dd⟩;exact⟨0,rfl,Dd⟩
theorem Yq:Cov.Whole 1 (Cov.packA m u (inc L) j r):=by
 unfold Cov.packA;repeat' split
 exact Uw L r j;exact⟨1,rfl,Dd⟩;exact⟨0,rfl,Dd⟩;exact⟨1,rfl,Dd⟩
theorem QK:Cov.Whole 1 (Cov.coverA m u (inc L) j r):=by
 unfold Cov.coverA;repeat' split
 exact Uw L r j;exact⟨-1,rfl,Dd⟩;exact⟨0,rfl,Dd⟩;exact⟨1,rfl,Dd⟩;exact⟨0,rfl,Dd⟩;exact⟨1,rfl,Dd⟩
theorem qDm w u n(a:OA)(I:u<=7)(hb:below=true->m<=6)(K:n=if below then u+m+m else u+m):
 Cl 174 #[.agg #[ai u,.slice a m cap,.bool below]] w λe w'=>∃v,e=.returned v/\w'.ownsRow w.1.size 253 20 v (zA u m n below u).length (xP (zA u m n below u))/\Bl w w':=by
 rw[j8];cases below
 have:=qDG w u m a cap I;rw[K];exact this;have:=qEH w u m a cap I (hb rfl);rw[K];exact this
theorem qAy:∀l i j,i<l.length->j<20->(xP l)[i*20+j]?=(qR (l.getD i (0,0,0)).1 (l.getD i (0,0,0)).2.1 (l.getD i (0,0,0)).2.2)[j]?
 |[],i,_,h,_=>by simp at h
 |t::l,0,j,_,hj=>by
  show(qR t.1 t.2.1 t.2.2++xP l)[0*20+j]?=(qR t.1 t.2.1 t.2.2)[j]?;rw[aL (by rw[zB];omega),show 0*20+j=j by omega]
 |t::l,i+1,j,h,hj=>by
  show(qR t.1 t.2.1 t.2.2++xP l)[(i+1)*20+j]?=_;rw[bQ (by rw[zB];omega),zB,show(i+1)*20+j-20=i*20+j by omega];exact qAy l i j (by simpa using h) hj
theorem qHz(h:w.ownsRow B 253 20 (sZ g 0 l.length cap) l.length (xP l))(hi:i<l.length):
 w.rangeAt g (i*20) (qR (l.getD i (0,0,0)).1 (l.getD i (0,0,0)).2.1 (l.getD i (0,0,0)).2.2):=by
 rcases h.2 with ⟨I,_⟩|⟨g',O,cur,hv,-,V,-,-,-,ht⟩;cases I
 simp only[vI,oI,Addr.mk.injEq]at hv;obtain⟨⟨rfl,-⟩,-,-⟩:=hv;intro j v M;have K:j<20:=by
  rcases dL j 20 with I|I;exact I;rw[gN (by rw[zB];exact I)]at M;cases M
 rw[eI V,<-dY];have:=qAy l i j hi K;rw[<-ht,cL Oo]at this;rw[this];exact M
structure LS(w wr:World)(k g cap u m n:Nat)(A:NQ)(l:List (Nat×Nat×Int))(F:Nat->Value)(s0:Cov.Sx)(i:Nat)(bar:NB)(s:Cov.Sx)(C:NQ):Prop where
 aims:Cov.Aims m n (Qm (l.take i)) (λ_=>false) s0 bar s
 good:Cov.Good m n A bar s
 sx:SxAt wr k m n C s.B bar
 rows:∀a,a<m->∀j,j<=n->C a j=s.T a j
 last:∀j,j<=n->Sm 41000 (C m j)
 bel:Bl w wr
 own:wr.ownsRow (k+1) 253 20 (sZ g 0 l.length cap) l.length (xP l)
 arg:ArrAt wr w.1.size 3 F
theorem qE5(l:List (Nat×Nat×Int))i(h:i<l.length):Qm (l.take (i+1))=Qm (l.take i)++[rc (xh (l.getD i (0,0,0)).1 (l.getD i (0,0,0)).2.1 (l.getD i (0,0,0)).2.2)]:=by
 unfold Qm;rw[tA,gE h,gD,gE h];simp only[Option.toList_some,mA,List.map_cons,List.map_nil,dI]
theorem qJI{s e}(h:w.ownsRow B e s (sZ g 0 n cap) n xs):B<=g/\g<w.1.size:=h.lt g rfl
theorem LS.step{F s0 O}
 (h:LS w wr k g cap u m n A l F s0 i bar s C) (hi:i<l.length) (hm:m<=7) (hW:∀j,j<=n->∀r,r<m->Cov.Whole 1 (A j r)) (V:∀t∈l,t.2.2.natAbs<=1) (hk:w.1.size<k) (hx:Bl wr wx) (hK:Kb k wx w')
 (ha:Cov.Aim m n (rc (xh (l.getD i (0,0,0)).1 (l.getD i (0,0,0)).2.1 (l.getD i (0,0,0)).2.2)) bar s I O)
 (hs:SxAt w' k m n (full m (xh (l.getD i (0,0,0)).1 (l.getD i (0,0,0)).2.1 (l.getD i (0,0,0)).2.2) O) O.B I):
 LS w w' k g cap u m n A l F s0 (i+1) I O (full m (xh (l.getD i (0,0,0)).1 (l.getD i (0,0,0)).2.1 (l.getD i (0,0,0)).2.2) O):=by
 have a3:l.getD i (0,0,0)∈l:=by
  rw[gD,gE hi];exact gM _
 have hg:=qFe h.good ha;have M:=qB h.own hx;have a5:=qJI M;have K:=h.arg.below Oo hx;refine⟨?_,hg.1,hs,λa a6 j _=>?_,λj hj=>?_,?_,?_,?_⟩;rw[qE5 l i hi];exact Uu h.aims ha;unfold full;rw[fF Oo];unfold full;rw[fE rfl];exact (ji hg.1.inv hW hm (xh (l.getD i (0,0,0)).1 (l.getD i (0,0,0)).2.1 _) (Uv (V _ a3))).2 j hj m eA;exact Below.trans (bt h.bel hx) (hK.below (bt h.bel hx).size Oo)
 .exact qD M (λb hb=>by
   simp only[Value.ownBlock,oI]at hb;subst hb;exact hK.block g a5.2 Oo)
 exact K.move (hK.block _ (K.lt Oo) Oo)
theorem uU w u n{vr}L(hu:u<=7)(hL:L.length<=7)(d1:below=true->L.length<=6)(hn:n=if below then u+L.length+L.length else u+L.length)(d2:n<=19)
 (hr:RowsAt w vr L) (hlen:∀i,i<L.length->(L.getD i []).length<=7) (d3:∀i,i<L.length->∀j∈L.getD i [],j<u)
  (hA:∀i,i<L.length->∀j,j<=n->yE u L below i j=A j i) (hW:∀j,j<=n->∀r,r<L.length->Cov.Whole 1 (A j r)) (hG:Cov.Good L.length n A (λ_=>false) ⟨λi j=>A j i,λi=>n-L.length+i⟩):
 Cl 146 #[.agg #[ai u,vr,.bool below]] w λe w'=>∃g K s',e=.returned (sZ g 0 u u)/\FrAt w' g u (Cov.xb L.length n s')/\
  Cov.Aims L.length n (Qm (zA u L.length n below u)) (λ_=>false) ⟨λi j=>A j i,λi=>n-L.length+i⟩ K s'/\Cov.Good L.length n A K s'/\w.1.size<=g/\g<w'.1.size/\Bl w w':=by
 have KS:=ay (λW e2=>by
  have:=JT W u vr L below hu hL (by rw[<-hn];exact d2) e2 hlen d3;rw[<-hn]at this;exact this)
 obtain⟨a,cap,d4,-⟩:=id hr;have KA:Hh (∀W,Cl 174 #[.agg #[ai u,vr,.bool below]] W λe w'=>∃v,e=.returned v/\w'.ownsRow W.1.size 253 20 v (zA u L.length n below u).length (xP (zA u L.length n below u))/\Bl W w'):=(λW=>by rw[d4];exact qDm W u n a hu d1 hn);have HR:=ay hr;have e3:u<=n:=by rw[hn];split <;> omega
 have⟨m,hm⟩:=Ex L.length;have⟨l,hl⟩:=Ex (zA u m n below u);have e4:l.length<=9:=by rw[hl,j8];split <;> omega
 have d5:0<l.length:=by rw[hl,j8];split <;> omega
 have b7:Hh (∀t∈l,t.2.2.natAbs<=1):=(by rw[hl];exact qEN u m n u);rw[<-hm]at KS KA hL hA hW hG |-;rw[<-hl]at KA |-;have⟨ln,b8⟩:=Ex l.length;rw[<-b8]at KA e4 d5;have HA:=ay hA;have HW:=ay hW;have HG:=ay hG;have HM:=ay hm;have b9:=ay b8;clear hA hW hG hm hl b8 d1 hn hlen d3 hr d4;have c7:Bl w (w.alloc (.cells #[ai u,vr,.bool below] 212)):=aK;have c8:ArrAt (w.alloc (.cells #[ai u,vr,.bool below] 212)) w.1.size 3 (f3 (ai u) vr (.bool below)):=qj w 3 (f3 (ai u) _ _) _;have e5:(w.alloc (.cells #[ai u,vr,.bool below] 212)).1.size=w.1.size+1:=Ss;go_enter func146,ntmps146;go_upto_region 1 with fail;generalize aJ w #[ai u,vr,.bool below] 212=W at *;have⟨p0,p1,p2⟩:=c8.three;go_upto_region 2 with (first|go_at_call 173;apply (KS.o _ (HR.o.below c7)).mono;rintro e w2 ⟨V,rfl,hV,a6⟩;have HV:=ay hV;have HT:Hh ((aJ w2 zSx 248).there w2.1.size 0 V.size):=(by rw[hV.1];exact yi _ _);have HI:Hh ((Tryz.prog.info? 248).map (·.size)=some V.size):=(by rw[hV.1];exact jI);have HO:=ay hV.one;have a7:=ay (hV.stored (yi w2 248));clear hV|refine uD rfl rfl ?_|refine wpList_store_mid rfl 248 _ _ rfl _ 0 V Fl Fl HT HI HO ?_);have O:=bt c7 a6;have a3:=O.size;have hs2:=a6.size;have c9:Bl w ((aJ w2 zSx 248).setCells w2.1.size 0 V.toList):=xX a3 _ _ _ (O.alloc a3 _);have a8:ArrAt ((aJ w2 zSx 248).setCells w2.1.size 0 V.toList) w.1.size 3 (f3 (ai u) vr (.bool below)):=((c8.below Oo a6).alloc Oo _).move (vO _ _ _ _ _ Oo);have d6:w.1.size<w2.1.size:=Oo;have⟨k,hk⟩:=Ex w2.1.size;rw[<-hk]at c9 a8 d6 a7 |-;generalize (aJ w2 zSx 248).setCells k 0 V.toList=w3 at *;have g6:=a7.o.lt;clear HT HI HO HV a6 c7 c8 p0 p1 p2 O a3 hs2 hk e5;have⟨p0,p1,p2⟩:=a8.three;go_wp2_with (go_at_call 174;apply (KA.o _).mono;rintro e w4 ⟨v,rfl,a4,a9⟩;obtain⟨g,gc,rfl,hg1,hg2⟩:=a4.form d5);have d7:Hh (LS w w4 k g gc u m n A l (f3 (ai u) vr (.bool below)) ⟨λi j=>A j i,λi=>n-m+i⟩ 0 (λ_=>false) ⟨λi j=>A j i,λi=>n-m+i⟩ (yE u L below)):=ay
  { aims:=⟨rfl,rfl⟩
    good:=HG
    sx:=a7.o.below a9
    rows:=HA
    last:=λj _=>by rw[show yE u L below m j=0 from fF (by rw[HM.o];omega)];exact⟨Dd,Dd⟩
    bel:=bt c9 a9
    own:=by rw[<-b9.o];exact qE a4 Oo
    arg:=a8.below Oo a9 }
 clear a7 a4 a9 c9 a8 p0 p1 p2 KS KA HR HG HA;go_loopw [11] (λt wr=>∃i:Nat,i<=ln/\t=ai i/\Hh (∃bar s C,LS w wr k g gc u m n A l (f3 (ai u) vr (.bool below)) ⟨λi j=>A j i,λi=>n-m+i⟩ i bar s C)) (λt _=>ln-(intOf t).toNat);exact⟨0,eC,rfl,ay ⟨_,_,_,d7⟩⟩;clear d7;obtain⟨i,hi,rfl,hH⟩:=hrel;have⟨bar,s,C,I⟩:=hH.o;by_cases e6:i<ln
 .have i1:=aV e6;have a5:i<l.length:=by rw[<-b9.o];exact e6
  have⟨cs,M⟩:=Ex (qR (l.getD i (0,0,0)).1 (l.getD i (0,0,0)).2.1 (l.getD i (0,0,0)).2.2);have e7:Hh (wr.rangeAt g (i*20) cs):=ay (by rw[M];exact qHz I.own a5);have d0:Hh (cs.length=20):=ay (by rw[M];exact zB);have d8:Hh ((Tryz.prog.info? 253).map (·.size)=some cs.length):=ay (by rw[d0.o];exact Yn);have e9:Hh (cs.toArray.all (·.oneCell')=true):=ay (all_oneCell_toArray (by rw[M];exact vg));have d9:Hh ((wr.alloc (.cells (zL 20 (λ_=>ai 0)).toArray 253)).there wr.1.size 0 cs.toArray.size):=ay (by rw[show cs.toArray.size=20 by simpa using d0.o];exact(qj _ _ _ _).there);have f7:Hh (((wr.alloc (.cells (zL 20 (λ_=>ai 0)).toArray 253)).setCells wr.1.size 0 cs.toArray.toList).rangeAt wr.1.size 0 cs):=ay (by
   have:=World.rangeAt_setCells_same (wr.alloc (.cells (zL 20 (λ_=>ai 0)).toArray 253)) wr.1.size 0 cs.toArray.toList (by have:=d9.o;simpa using this);simpa using this)
  have e0:Bl wr ((wr.alloc (.cells (zL 20 (λ_=>ai 0)).toArray 253)).setCells wr.1.size 0 cs.toArray.toList):=xX eA _ _ _ aK;have e1:=ay e0;have b1:=ay I;have g7:=ay M;have KL:Hh (∀W,SxAt W k m n C s.B bar->Cl 175 #[.pointer (some (az k 0)),.agg cs.toArray] W λe w'=>e=.returned (.tuple #[])/\Kb k W w'/\∃K s',Cov.Aim m n (rc (xh (l.getD i (0,0,0)).1 (l.getD i (0,0,0)).2.1 (l.getD i (0,0,0)).2.2)) bar s K s'/\SxAt w' k m n (full m (xh (l.getD i (0,0,0)).1 (l.getD i (0,0,0)).2.1 (l.getD i (0,0,0)).2.2) s') s'.B K):=ay (λW hS=>by
   rw[M];refine JP W k m n A C s hS I.rows I.last I.good HW.o (Uv (b7.o _ ?_));rw[gD,gE a5];exact gM _)
  clear hH I M e0;go_wp2_with (first|refine wpList_load_mid rfl 253 _ rfl g _ Fl cs _ e7 underlying253 Fl d8 ?_|refine QR rfl rfl ?_|refine wpList_store_mid rfl 253 _ _ rfl _ 0 _ Fl Fl d9 (by exact (by rw[show cs.toArray.size=20 by simpa using d0.o];exact Yn)) e9 ?_|refine wpList_load_mid rfl 253 _ rfl _ 0 Fl cs _ f7 underlying253 Fl d8 ?_|go_at_call 175;apply (KL.o _ (b1.o.sx.below e1.o)).mono;rintro e w5 ⟨rfl,hK,K,s',ha,f8⟩);go_roundw;exact⟨i+1,Oo,Gg,ay ⟨_,_,_,b1.o.step a5 hL HW b7 d6 e1 hK ha f8⟩⟩;exact Im
 obtain rfl:i=ln:=Oo;have i1:=aY i;obtain⟨p0,-,-⟩:=I.arg.three;have KV:=ay (Kz k m n u C I.sx Oo e3);have b1:=ay I;clear hH I;go_wp2_with (go_at_call 176;apply KV.o.mono;rintro e w5 ⟨rfl,hF,f9,g4⟩);go_ret;have I:=b1.o;refine⟨_,bar,s,rfl,⟨λj hj=>?_,λj hj=>?_,hF.free⟩,?_,I.good,I.bel.size,f9,bt I.bel g4⟩;rw[hF.num j hj];have:jT C s.B n m j=Cov.xb m n s j:=(X7 (λa ha b hb e=>I.good.inv.inj ha hb e) j).trans (Cov.sm_congr (λa ha=>by show(if s.B a=j then C a n else 0)=if s.B a=j then s.T a n else 0;rw[I.rows a ha n eA]));rw[this];rw[hF.den j hj];have:jT C s.B n m j=Cov.xb m n s j:=(X7 (λa ha b hb e=>I.good.inv.inj ha hb e) j).trans (Cov.sm_congr (λa ha=>by show(if s.B a=j then C a n else 0)=if s.B a=j then s.T a n else 0;rw[I.rows a ha n eA]));rw[this];have:=I.aims;rw[b9.o,tL]at this;exact this
theorem IS.firsts{a:OA}{l}(h:IS w (.slice a n cap) l)(M:j<=l.length)I:IS w (.slice a j I) (l.take j):=by
 have⟨O,c',e,K⟩:=h;simp only[vI]at e;obtain⟨rfl,rfl,rfl⟩:=e;have hl:(l.take j).length=j:=by rw[bZ];omega
 refine⟨a,I,by rw[hl],?_⟩;rw[hl];rcases K with V|⟨b,o,rfl,K⟩;exact .inl Oo;refine .inr ⟨b,o,rfl,λi hi=>?_⟩;rw[K i Oo];rw[gD,gD,cL hi]
theorem qDY w x lo hi:aF 40 #[ai x,ai lo,ai hi] w (.bool (decide (lo<=x)&&decide (x<=hi))) λw'=>w'=w:=by
 by_cases I:lo<=x
 .by_cases K:x<=hi
  .rw[fD I,fD K];go_enter func40,ntmps40;go_wp2;go_ret;exact⟨rfl,rfl⟩
  rw[fD I,fC K];go_enter func40,ntmps40;go_wp2;go_ret;exact⟨rfl,rfl⟩
 rw[fC I,Bool.false_and];go_enter func40,ntmps40;go_wp2;go_ret;exact⟨rfl,rfl⟩
def yl(k:Int)(o:LI)(j:Nat):Bool:=decide (0<=o.getD j 0)&&decide (o.getD j 0<k)&&!decide (o.getD j 0∈o.take j)
def hdB(k:Int)(o:LI):Bool:=(List.range o.length).all (yl k o)
theorem qAF w{v o}k(h:IS w v o)(hl:o.length<=1099511627776)(V:∀a n cap,v=.slice a n cap->n<=cap):
 aF 49 #[ai k,v] w (.bool (hdB k o)) λw'=>w'=w:=by
 have HI:=ay h;obtain⟨a,cap,rfl,hc⟩:=h;have a4:=V _ _ _ rfl;have⟨res,I⟩:=Ex (hdB k o);rw[<-I];have HC:=ay hc;have HF:Hh (∀j,j<o.length->yl k o j=false->res=false):=λj hj e=>by rw[I];exact qe hj e
 have HT:Hh ((∀j,j<o.length->yl k o j=true)->res=true):=λh1=>by rw[I];exact qh h1
 have HP:Hh (∀j,yl k o j=(decide (0<=o.getD j 0)&&decide (o.getD j 0<k)&&!decide (o.getD j 0∈o.take j))):=λ_=>rfl;have HK:Hh (∀j x,j<=o.length->Cl 64 #[.slice a j cap,ai x] w λe w'=>e=.returned (.bool (decide (x∈o.take j)))/\w'=w):=λj x hj=>xt w _ _ x (HI.o.firsts hj _) (by rw[bZ];omega);clear HI I hc V;have⟨n,hn⟩:=Ex o.length;rw[<-hn]at HF HT hl HC HK a4 |-;clear hn;go_enter func49,ntmps49;go_wp2;go_loop [9] (λt=>∃j:Nat,j<=n/\t=ai j/\Hh (∀i,i<j->yl k o i=true)) (λt=>n-(intOf t).toNat);exact⟨0,eC,rfl,ay (λi hi=>Oo)⟩;obtain⟨j,hj,rfl,M⟩:=hrel;by_cases a3:j<n
 .have i1:=aV a3;rcases HC.o with h0|⟨b,of,rfl,K⟩;omega;have c1:=K j a3;have fin:=HF j a3;have nxt:yl k o j=true->Hh (∀i,i<j+1->yl k o i=true):=λe i hi=>by
   by_cases e2:i=j;rw[e2];exact e;exact M i Oo
  have O:=HP j;have KC:=ay (HK j (o.getD j 0) Oo);clear K M;generalize yl k o j=y at *;generalize decide (o.getD j 0∈o.take j)=f at *;generalize o.getD j 0=x at *;by_cases h1:x<0
  .obtain rfl:=fin (by rw[O,fC Oo];rfl);clear nxt O;go_wp2;go_ret;exact⟨rfl,rfl⟩
  have e1:decide (x<0)=false:=Sy;by_cases h2:k<=x
  .obtain rfl:=fin (by rw[O,fC (by omega:¬x<k)];simp);clear nxt O;go_wp2;go_ret;exact⟨rfl,rfl⟩
  have e2:decide (k<=x)=false:=Sy;have j1:(j:Int)<=cap:=Oo;rw[fD (by omega:0<=x),fD (by omega:x<k),dG,dG]at O;cases f
  .have hf:=nxt O;clear fin nxt O;go_wp2_with fail;apply KC.o.mn;intro w1 hw1;subst w1;go_wp2;go_round;exact⟨j+1,Oo,Gg,hf⟩;exact Im
  obtain rfl:=fin O;clear nxt O;go_wp2_with fail;apply KC.o.mn;intro w1 hw1;subst w1;go_wp2;go_ret;exact⟨rfl,rfl⟩
 obtain rfl:j=n:=Oo;obtain rfl:=HT M;have i1:=aY j;clear M;go_wp2;go_ret;exact⟨rfl,rfl⟩
theorem qAG w{v o}(k:Nat)(h:IS w v o)(hk:k<=6)(hl:o.length<=1099511627776)(O:∀a n cap,v=.slice a n cap->n<=cap):
 aF 25 #[ai k,v] w (.bool (hdB k o)) λw'=>w'=w:=by
 have HI:=ay h;obtain⟨a,cap,rfl,hc⟩:=h;have a4:=O _ _ _ rfl;have⟨res,I⟩:=Ex (hdB k o);rw[<-I];have HC:=ay hc;have HF:Hh (∀j,j<o.length->yl k o j=false->res=false):=λj hj e=>by rw[I];exact qe hj e
 have HT:Hh ((∀j,j<o.length->yl k o j=true)->res=true):=λh1=>by rw[I];exact qh h1
 have HP:Hh (∀j,yl k o j=((decide (0<=o.getD j 0)&&decide (o.getD j 0<=(k:Int)-1))&&!decide (o.getD j 0∈o.take j))):=λj=>by
  unfold yl;rw[show decide (o.getD j 0<(k:Int))=decide (o.getD j 0<=(k:Int)-1) from decide_eq_decide.2 Oo]
 have HK:Hh (∀j x,j<=o.length->Cl 41 #[.slice a j cap,ai x] w λe w'=>e=.returned (.bool (decide (x∈o.take j)))/\w'=w):=λj x hj=>ze w _ _ x (HI.o.firsts hj _) (by rw[bZ];omega);clear HI I hc O;have⟨n,hn⟩:=Ex o.length;rw[<-hn]at HF HT hl HC HK a4 |-;clear hn;have hw:IntKind.i64.wrap ((k:Int)-1)=(k:Int)-1:=by simp[IntKind.wrap,IntKind.bits,IntKind.signed];omega
 go_enter func25,ntmps25;go_wp2;go_loop [9] (λt=>∃j:Nat,j<=n/\t=ai j/\Hh (∀i,i<j->yl k o i=true)) (λt=>n-(intOf t).toNat);exact⟨0,eC,rfl,ay (λi hi=>Oo)⟩;obtain⟨j,hj,rfl,M⟩:=hrel;by_cases a3:j<n
 .have i1:=aV a3;rcases HC.o with h0|⟨b,of,rfl,K⟩;omega;have c1:=K j a3;have fin:=HF j a3;have nxt:yl k o j=true->Hh (∀i,i<j+1->yl k o i=true):=λe i hi=>by
   by_cases e2:i=j;rw[e2];exact e;exact M i Oo
  have V:=HP j;have KC:=ay (HK j (o.getD j 0) Oo);have KB:=ay (qDY w (o.getD j 0) 0 (k-1));clear K M;generalize yl k o j=y at *;generalize decide (o.getD j 0∈o.take j)=f at *;generalize (decide (0<=o.getD j 0)&&decide (o.getD j 0<=(k:Int)-1))=z at *;generalize o.getD j 0=x at *;have j1:(j:Int)<=cap:=Oo;cases z
  .obtain rfl:=fin (by rw[V];rfl);clear nxt V;go_wp2_with (go_at_call 40;apply KB.o.mn;intro w1 hw1;subst w1);go_ret;exact⟨rfl,rfl⟩
  rw[dG]at V;cases f
  .have hf:=nxt V;clear fin nxt V;go_wp2_with (first|go_at_call 40;apply KB.o.mn;intro w1 hw1;subst w1|go_at_call 41;apply KC.o.mn;intro w1 hw1;subst w1);go_round;exact⟨j+1,Oo,Gg,hf⟩;exact Im
  obtain rfl:=fin V;clear nxt V;go_wp2_with (first|go_at_call 40;apply KB.o.mn;intro w1 hw1;subst w1|go_at_call 41;apply KC.o.mn;intro w1 hw1;subst w1);go_ret;exact⟨rfl,rfl⟩
 obtain rfl:j=n:=Oo;obtain rfl:=HT M;have i1:=aY j;clear M;go_wp2;go_ret;exact⟨rfl,rfl⟩
theorem JW w{av:OA}{nv cv vw l}(h:IS w vw l)(hl:l.length<=1000):
 aG 46 #[.agg #[.slice av nv cv,vw],ai 1] w (ai 1):=by
 obtain⟨a,cap,rfl,O⟩:=h;obtain⟨n,hn⟩:=Ex l.length;rw[<-hn]at O hl |-;obtain⟨V,K⟩:=Ex (w.alloc (.cells #[.slice av nv cv,.slice a n cap] 82));have M:Bl w V:=by rw[K];exact(bJ _ _).alloc (nR _) _
 have t1:V.cell? (az w.1.size 1)=some (.slice a n cap):=by rw[K,bE _ _ _ _ rfl];rfl
 have HC:=ay O;have HB:=ay M;clear O M hn;go_enter func46,ntmps46;go_upto_region 1 with fail;rw[<-K];clear K;go_wp2;go_loopw [5,6,12] (λx y t wr=>∃(j:Nat) (p s:Int),j<=n/\t=ai j/\x=ai p/\y=ai s/\wr=V) (λ_ _ t _=>n-(intOf t).toNat);exact⟨0,1,0,nZ _,rfl,rfl,rfl,rfl⟩;obtain⟨j,p,s,hj,rfl,rfl,rfl,e⟩:=hrel;subst e;by_cases a3:j<n
 .have i1:(j:Int)<n:=Oo;rcases HC.o with h0|⟨b,o,rfl,I⟩;omega;have c1:=qF HB (I j a3);clear I;go_wp2;go_roundw;exact⟨j+1,_,_,Oo,Gg,rfl,rfl,trivial⟩;exact Im
 obtain rfl:j=n:=Oo;have i1:¬((j:Int)<j):=Oo;go_wp2;go_ret;exact⟨rfl,HB⟩
theorem qAR x y:Cl 47 #[ai x,ai y,ai 1] w λe w'=>(∃z,e=.returned (ai z))/\w'=w:=by
 go_enter func47,ntmps47;go_wp2;go_ret;exact⟨⟨_,rfl⟩,rfl⟩
end
section
variable {most:Bool}{bag l:LI}{es:LL}{B C c e g i j k m n p r u:Nat}{s:NN}{R T A:NQ}{b piv x y:NR}{q:Rat}{v z vr vb vx:Value}{w W:World}{α:Type}
def plN(p:NB)(k:Nat):LN:=(List.range k).filter p
theorem qIb p k:plc p k=(plN p k).map Int.ofNat:=rfl
def qX(bag:LI)(es:LL):List (LN):=bag.map λx=>plN (λi=>decide (x∈es.getD i [])) es.length
def jE(bag:LI)(es:LL):List (LN):=es.map λe=>plN (λi=>decide (bag.getD i 0∈e)) bag.length
theorem qCU bag es:zV bag es=(qX bag es).map (λl=>l.map Int.ofNat):=by
 unfold zV qX;rw[List.map_map];rfl
theorem qEF bag es:zt bag es=(jE bag es).map (λl=>l.map Int.ofNat):=by
 unfold zt jE;rw[List.map_map];rfl
theorem qDD{pB u bel vs L}(h:PR W B pB u bel vr vs (L.map (λl=>l.map Int.ofNat))):RowsAt W vr L:=by
 have I:=h.own;have hlen:=h.len;rw[lM]at I hlen;rcases I.2 with ⟨rfl,h2⟩|⟨g,cap,cur,rfl,hb',hc,hn,-,-,ht⟩;exact⟨none,0,by rw[h2],λi hi=>Oo⟩;refine⟨_,cap,rfl,λi hi=>⟨g,0,vs.getD i undef,rfl,?_,?_⟩⟩
 .rw[eI hc,cU,<-dY];have:(cur.toList.take (L.length*1))[i]?=vs[i]?:=by rw[ht]
  rw[cL Oo]at this;rw[this,gD,gE Oo];rfl
 have V:=h.each i (by rw[lM];exact hi);have hg:(L.map (λl=>l.map Int.ofNat)).getD i []=(L.getD i []).map Int.ofNat:=by
  rw[gD,bK,gD,gE hi];rfl
 rw[hg]at V;have⟨a,cp,e,M⟩:=qN V;rw[lM]at e M;refine⟨a,cp,e,λj O=>?_⟩;rcases M with h0|⟨b,o,ea,K⟩;omega;refine⟨b,o,ea,(K j O).trans ?_⟩;generalize L.getD i []=q at O |-;rw[gD,bK,gD,gE O];rfl
def zk(m u:Nat)(M:NQ)(x:NR):Prop:=Cov.Cover m u M x/\∀y,Cov.Cover m u M y->Cov.Lex (Cov.key 1 u x) (Cov.key 1 u y)
def qBn(m u:Nat)(M:NQ)(x:NR):Prop:=Cov.Pack m u M x/\∀y,Cov.Pack m u M y->Cov.Lex (Cov.key (-1) u x) (Cov.key (-1) u y)
def Parts(u:Nat)(x:NR):Prop:=∃D:Int,D≠0/\D.natAbs<=5040/\∀j,j<u->Cov.Whole 5040 (x j*((D:Int):Rat))
theorem Yg{bar s}(h:Cov.Good m n A bar s)(K:m<=7)(M:∀j,j<=n->∀r,r<m->Cov.Whole 1 (A j r))u:Parts u (Cov.xb m n s):=by
 have⟨D,O,hD,V⟩:=h.inv.small M;have hf:=Yl K;refine⟨D,O,Oo,λj _=>?_⟩;by_cases I:∃i,i<m/\s.B i=j;obtain⟨i,hi,rfl⟩:=I;unfold Cov.xb;rw[h.inv.val_basic _ hi];exact(V i hi n eA).mono hf;unfold Cov.xb;rw[Cov.val_not (λi hi e=>I ⟨i,hi,e⟩)];exact⟨0,Ss,Ss⟩
theorem Parts.sm(h:Parts u x)(I:j<u):Sm 5040 (x j):=by
 have⟨D,K,M,O⟩:=h;exact zb K M (O j I) eA
theorem Parts.sum(h:Parts u x)(M:k<=u)(O:u<=7):Sm 36000 (Cov.sm k x):=by
 have⟨D,I,V,K⟩:=h;refine zb (Z:=k*5040) I Oo ?_ ?_
 .have:Cov.sm k x*((D:Int):Rat)=Cov.sm k (λj=>x j*((D:Int):Rat)):=by
   rw[show(λj=>x j*((D:Int):Rat))=(λj=>((D:Int):Rat)*x j) from funext λj=>Rr,Cov.sm_mul];grind
  rw[this];exact Cov.whole_sm (λj hj=>K j Oo)
 have:k*5040<=7*5040:=Nat.mul_le_mul Oo eA;omega
theorem ZH L r e:0<=inc L r e:=by
 unfold inc;split;decide;exact Rat.le_refl
theorem qCV w vr L(hu:u<=7)(hL:L.length<=6)(hr:RowsAt w vr L)(hlen:∀i,i<L.length->(L.getD i []).length<=7)(I:∀i,i<L.length->∀j∈L.getD i [],j<u)
 (K:∀r,r<L.length->∃e,e<u/\inc L r e=1):
 Cl 146 #[.agg #[ai u,vr,.bool true]] w λe w'=>∃g x,e=.returned (sZ g 0 u u)/\FrAt w' g u x/\zk L.length u (inc L) x/\Parts u x/\w.1.size<=g/\g<w'.1.size/\Bl w w':=by
 have O:(λi=>u+L.length+L.length-L.length+i)=λi=>u+L.length+i:=funext λi=>Oo;apply (uU w u (u+L.length+L.length) L hu Oo (λ_=>hL) rfl Oo hr hlen I (λi hi j hj=>Kq u L i j hi hj) (λj _ r _=>QK) (by rw[O];exact Cov.cover_good (m:=L.length) (u:=u) (M:=inc L))).mono;rintro e w' ⟨g,V,s',rfl,hF,ha,hG,h1,h2,hb⟩;rw[qDP,O]at ha;have⟨g1,g2,g3⟩:=Cov.cover_least (λr _ e _=>ZH L r e) K ha;exact⟨g,_,rfl,hF,⟨g2,g3⟩,Yg hG Oo (λj _ r _=>QK) u,h1,h2,hb⟩
theorem qEG w vr L(hu:u<=6)(hL:L.length<=7)(hr:RowsAt w vr L)(hlen:∀i,i<L.length->(L.getD i []).length<=7)(I:∀i,i<L.length->∀j∈L.getD i [],j<u)
 (K:∀e,e<u->∃r,r<L.length/\inc L r e=1):
 Cl 146 #[.agg #[ai u,vr,.bool false]] w λe w'=>∃g x,e=.returned (sZ g 0 u u)/\FrAt w' g u x/\qBn L.length u (inc L) x/\Parts u x/\w.1.size<=g/\g<w'.1.size/\Bl w w':=by
 have O:(λi=>u+L.length-L.length+i)=λi=>u+i:=funext λi=>Oo;apply (uU w u (u+L.length) L Oo Oo (λh=>by cases h) rfl Oo hr hlen I (λi hi j hj=>qBs u L i j hi hj) (λj _ r _=>Yq) (by rw[O];exact Cov.pack_good (m:=L.length) (u:=u) (M:=inc L))).mono;rintro e w' ⟨g,V,s',rfl,hF,ha,hG,h1,h2,hb⟩;rw[qEM,O]at ha;have⟨g1,g2,g3⟩:=Cov.pack_least (λr _ e _=>ZH L r e) K ha;exact⟨g,_,rfl,hF,⟨g2,g3⟩,Yg hG Oo (λj _ r _=>Yq) u,h1,h2,hb⟩
def prs(u:Nat)(x:NR):LP:=(List.range u).map λj=>((x j).num,((x j).den:Int))
theorem qi u x:(prs u x).length=u:=by simp[prs]
theorem vE(h:j<u):(prs u x).getD j (0,0)=((x j).num,((x j).den:Int)):=by
 unfold prs;rw[gD,bK,List.getElem?_range h];rfl
theorem qDE(h:FrAt w g u x):IR w (sZ g 0 u u) (prs u x):=by
 refine⟨_,u,by rw[qi],.inr ⟨g,0,rfl,λj I=>?_⟩⟩;rw[qi]at I;rw[vE I,cU];exact⟨h.num j I,h.den j I⟩
theorem JI x(M:u<=7)(h:IR w v (prs u x))(K:Parts u x):
 Cl 145 #[v] w λe w'=>∃v,e=.returned v/\w'.ownsRow w.1.size 36 2 v (prs u x).length (rcs (prs u x))/\Bl w w':=by
 refine qBF w v h (by rw[qi];omega) (λj I=>?_);rw[qi]at I;rw[vE I];have:=K.sm I;have O:=this.1;have V:=this.2;refine⟨⟨?_,?_⟩,?_,?_⟩ <;> simp only <;> omega
theorem kY(h:Sm 1000000 q):OkR q.num q.den:=by
 have I:=h.1;have K:=h.2;have M:=q.den_pos;refine⟨Oo,Oo,Oo,Oo,?_⟩;have:=q.reduced;unfold Nat.Coprime at this;rw[Int.gcd,Int.natAbs_natCast];exact this
theorem qJo{p}w(K:Sm 1000000 p)(hq:Sm 1000000 q)(hs:Sm 1000000 (p+q)):
 aG 177 #[.agg #[ai p.num,ai p.den],.agg #[ai q.num,ai q.den]] w (.agg #[ai (p+q).num,ai (p+q).den]):=by
 have I:(p.den:Int)*(q.den:Int)≠0:=Int.mul_ne_zero (O1 p.den_nz) (O1 q.den_nz);have e:p+q=Rat.divInt (p.num*q.den+q.num*p.den) (p.den*q.den):=by
  rw[<-Rat.divInt_add_divInt _ _ (O1 p.den_nz) (O1 q.den_nz),aH,aH]
 have⟨f1,f2⟩:=qEO (p.num*q.den+q.num*p.den) _ I;rw[<-e]at f1 f2;have:=qGV w (kY K) (kY hq) (by rw[f1,f2];exact kY hs);rw[f1,f2]at this;exact this
theorem qGy w v x(M:u<=7)(h:IR w v (prs u x))(I:Parts u x):
 aG 149 #[v] w (.agg #[ai (Cov.sm u x).num,ai (Cov.sm u x).den]):=by
 have:=qCR w v h (by rw[qi];omega) (λk=>((Cov.sm k x).num,(Cov.sm k x).den)) rfl (λk W K=>by
  rw[qi]at K;rw[vE K];exact qJo W ((I.sum Oo M).mono Oo) ((I.sm K).mono Oo) ((I.sum (k:=k+1) Oo M).mono Oo))
 rw[qi]at this;exact this
def f5(x y z u v:Value):Nat->Value
 |0=>x
 |1=>y
 |2=>z
 |3=>u
 |_=>v
theorem ArrAt.five{x y u}(h:ArrAt w k 5 (f5 x y z u v)):w.cell? (az k 0)=some x/\w.cell? (az k 1)=some y/\w.cell? (az k 2)=some z/\w.cell? (az k 3)=some u/\w.cell? (az k 4)=some v:=⟨h.cell 0 Oo,h.cell 1 Oo,h.cell 2 Oo,h.cell 3 Oo,h.cell 4 Oo⟩
theorem ArrAt.frees{f}(h:ArrAt w k 5 f):w.frozen? (az k 0)=false/\w.frozen? (az k 1)=false/\w.frozen? (az k 2)=false/\w.frozen? (az k 3)=false/\w.frozen? (az k 4)=false:=⟨h.free 0 Oo,h.free 1 Oo,h.free 2 Oo,h.free 3 Oo,h.free 4 Oo⟩
theorem ArrAt.five_set{x y u}(h:ArrAt w k 5 (f5 x y z u v))I K M O v':
 ArrAt (((((w.setCell (az k 0) I).setCell (az k 1) K).setCell (az k 2) M).setCell (az k 3) O).setCell (az k 4) v') k 5 (f5 I K M O v'):=by
 have:=((((h.set (i:=0) Oo I).set (i:=1) Oo K).set (i:=2) Oo M).set (i:=3) Oo O).set (i:=4) Oo v';refine⟨λj V=>?_,this.free⟩;rw[this.cell j V];match j,V with
 |0,_=>rfl
 |1,_=>rfl
 |2,_=>rfl
 |3,_=>rfl
 |4,_=>rfl
theorem yz bag es:(qX bag es).length=bag.length:=by simp[qX]
theorem qEW bag es:(jE bag es).length=es.length:=by simp[jE]
theorem jl bag es(h:i<bag.length):(qX bag es).getD i []=plN (λk=>decide (bag.getD i 0∈es.getD k [])) es.length:=by
 unfold qX;rw[gD,bK,gD (l:=bag),gE h];rfl
theorem Zg bag es(h:i<es.length):(jE bag es).getD i []=plN (λk=>decide (bag.getD k 0∈es.getD i [])) bag.length:=by
 unfold jE;rw[gD,bK,gD (l:=es),gE h];rfl
theorem Vt p k:(plN p k).length<=k:=by
 have:=dH p (List.range k);rw[List.length_range]at this;exact this
theorem uc{p}:j∈plN p k↔j<k/\p j=true:=by
 unfold plN;rw[cK,cJ]
theorem qEX(I:r<bag.length)(K:e<es.length):inc (qX bag es) r e=if bag.getD r 0∈es.getD e [] then 1 else 0:=by
 unfold inc;rw[jl bag es I];by_cases h:bag.getD r 0∈es.getD e [];rw[fE h,fE (uc.2 ⟨K,fD h⟩)];rw[fF h,fF (λM=>h (aN (uc.1 M).2))]
theorem qFj(I:r<es.length)(K:e<bag.length):inc (jE bag es) r e=if bag.getD e 0∈es.getD r [] then 1 else 0:=by
 unfold inc;rw[Zg bag es I];by_cases h:bag.getD e 0∈es.getD r [];rw[fE h,fE (uc.2 ⟨K,fD h⟩)];rw[fF h,fF (λM=>h (aN (uc.1 M).2))]
theorem Uy(h:yk bag es=true){v}(hv:v<bag.length):∃e,e<es.length/\bag.getD v 0∈es.getD e []:=by
 unfold yk at h;have:=aT.1 h _ (yT hv);have⟨x,K,M⟩:=List.any_eq_true.1 this;obtain⟨e,I,rfl⟩:=List.mem_iff_getElem.1 K;refine⟨e,I,?_⟩;rw[gD (l:=es),gE I];exact aN M
theorem ud(h:qb l=true)(hi:i<l.length):0<=l.getD i 0/\l.getD i 0<6/\(i=0\/l.getD (i-1) 0<l.getD i 0):=by
 have:=aT.1 h i (cJ.2 hi);unfold xV at this;simp only[bV,Bool.or_eq_true,dE]at this;exact⟨this.1.1,this.1.2,this.2⟩
theorem qCg(h:qb l=true):∀i,i<l.length->(i:Int)<=l.getD i 0
 |0,hi=>by have:=(ud h hi).1;simpa using this
 |i+1,hi=>by
  have K:=qCg h i Oo;rcases (ud h hi).2.2 with I|I;omega;rw[show i+1-1=i by omega]at I;omega
theorem kI(h:qb l=true):l.length<=6:=by
 rcases dL 6 l.length with I|I;have K:=qCg h 6 I;have M:=(ud h I).2.1;omega;exact I
theorem jm(h:zf es=true):es.length<=7:=by
 unfold zf at h;simp only[bV,dE]at h;exact h.1
theorem qBy w ve(hb:IS w vb bag)(h:ISS w ve es)(d9:bag.length<=1099511627776)(hl:qS es)(h1:qb bag=true)(h2:zf es=true)(h3:yk bag es=true):
 Cl 109 #[vb,ve] w λe w'=>∃x y vW vD,e=.returned (.agg #[.bool true,ai (Cov.sm es.length x).num,ai (Cov.sm es.length x).den,vW,vD])/\zk bag.length es.length (inc (qX bag es)) x/\qBn es.length bag.length (inc (jE bag es)) y/\
  Parts es.length x/\Parts bag.length y/\w'.ownsRow w.1.size 36 2 vW (prs es.length x).length (rcs (prs es.length x))/\w'.ownsRow w.1.size 36 2 vD (prs bag.length y).length (rcs (prs bag.length y))/\(∀g,vW.ownBlock=some g->vD.ownBlock≠some g)/\Bl w w':=by
 have e8:=kI h1;have d5:=jm h2;have e0:=yz bag es;have e1:=qEW bag es;have SC:=ay (λW vr hr=>by
  have:=qCV W vr (qX bag es) d5 Oo hr (λi hi=>by rw[jl bag es Oo];have:=Vt (λk=>decide (bag.getD i 0∈es.getD k [])) es.length;omega) (λi hi j hj=>by rw[jl bag es Oo]at hj;exact(uc.1 hj).1) (λr hr=>by
   obtain⟨e,he,hm⟩:=Uy h3 (v:=r) Oo;exact⟨e,he,by rw[qEX Oo he,fE hm]⟩)
  rw[e0]at this;exact this)
 have SP:=ay (λW vr hr=>by
  have:=qEG W vr (jE bag es) e8 Oo hr (λi hi=>by rw[Zg bag es Oo];have:=Vt (λk=>decide (bag.getD k 0∈es.getD i [])) bag.length;omega) (λi hi j hj=>by rw[Zg bag es Oo]at hj;exact(uc.1 hj).1) (λe he=>by
   obtain⟨r,hr,hm⟩:=Uy h3 Oo;exact⟨r,Oo,by rw[qFj hr Oo,fE hm]⟩)
  rw[e1]at this;exact this)
 have CP:Hh (∀W,IS W vb bag->ISS W ve es->Cl 147 #[vb,ve] W λe w'=>∃vr,e=.returned (.agg #[ai es.length,vr,.bool true])/\RowsAt w' vr (qX bag es)/\Bl W w'):=λW M O=>(Zx W M O Oo hl).mono (by
  rintro e w' ⟨vr,vs,rfl,hp,hb'⟩;rw[qCU]at hp;exact⟨vr,rfl,qDD hp,hb'⟩)
 have PP:Hh (∀W,IS W vb bag->ISS W ve es->Cl 148 #[vb,ve] W λe w'=>∃vr,e=.returned (.agg #[ai bag.length,vr,.bool false])/\RowsAt w' vr (jE bag es)/\Bl W w'):=λW M O=>(Q7 W M O Oo hl Oo).mono (by
  rintro e w' ⟨vr,vs,rfl,hp,hb'⟩;rw[qEF]at hp;exact⟨vr,rfl,qDD hp,hb'⟩)
 have HB:=ay hb;have HE:=ay h;obtain⟨a,cap,rfl,-⟩:=hb;obtain⟨a',I,rfl,-⟩:=h;have hA:Bl w (w.alloc (.cells #[.bool false,ai 0,ai 0,sn,sn] 167)):=aK;have hs:w.1.size<(w.alloc (.cells #[.bool false,ai 0,ai 0,sn,sn] 167)).1.size:=Ss;have hc:ArrAt (w.alloc (.cells #[.bool false,ai 0,ai 0,sn,sn] 167)) w.1.size 5 (f5 (.bool false) (ai 0) (ai 0) sn sn):=qj w 5 (f5 _ (ai 0) (ai 0) sn sn) _;have K1:Hh (∀W,IS W (.slice a bag.length cap) bag->Cl 106 #[.slice a bag.length cap] W λe w'=>e=.returned (.bool true)/\w'=W):=(λW M=>by have:=zn W _ M d9;rw[h1]at this;exact this);have K2:Hh (∀W,ISS W (.slice a' es.length I) es->Cl 103 #[.slice a' es.length I] W λe w'=>e=.returned (.bool true)/\w'=W):=(λW M=>by have:=QV W M hl;rw[h2]at this;exact this);have K3:Hh (∀W,IS W (.slice a bag.length cap) bag->ISS W (.slice a' es.length I) es->Cl 144 #[.slice a bag.length cap,.slice a' es.length I] W λe w'=>e=.returned (.bool true)/\Bl W w'):=(λW M O=>by have:=JU W M O d9 hl;rw[h3]at this;exact this);clear h1 h2 h3 e0 e1 hl;go_enter func109,ntmps109;go_upto_region 1 with fail;generalize aJ w #[.bool false,ai 0,ai 0,sn,sn] 167=W at *;go_upto_region 3 with (first|go_at_call 106;apply (K1.o _ (HB.o.below hA)).mn;intro w' e9;subst w'|go_at_call 103;apply (K2.o _ (HE.o.below hA)).mn;intro w' e9;subst w'|go_at_call 144;apply (K3.o _ (HB.o.below hA) (HE.o.below hA)).mono;rintro e w9 ⟨rfl,a6⟩);have a7:=bt hA a6;have e2:=hc.below Oo a6;have e3:=bN hs a6.size;clear K1 K2 K3 hc a6 hA hs;go_upto_region 4 with (first|go_at_call 147;apply (CP.o _ (HB.o.below a7) (HE.o.below a7)).mono;rintro e w1 ⟨vr,rfl,V,a3⟩|go_at_call 146;apply (SC.o _ _ V).mono;rintro e w2 ⟨g,x,rfl,hF,hX,hP,hg1,hg2,a4⟩|go_at_call 145;apply (JI x d5 (qDE hF) hP).mono;rintro e w3 ⟨vW,rfl,d6,a8⟩);have a9:=bt (bt (bt a7 a3) a4) a8;have e4:=((e2.below Oo a3).below Oo a4).below Oo a8;have e5:w.1.size+1<=w2.1.size:=bM e3 (bt a3 a4).size;have e6:=(bt (bt a3 a4) a8).size;change Hh _ at hX hP;clear CP SC V hF hg1 hg2 a3 a4 a8 a7 e2;go_upto_region 5 with (first|go_at_call 148;apply (PP.o _ (HB.o.below a9) (HE.o.below a9)).mono;rintro e w4 ⟨vr,rfl,V,b1⟩|go_at_call 146;apply (SP.o _ _ V).mono;rintro e w5 ⟨g,y,rfl,hF,hY,hQ,hg1,hg2,b7⟩|go_at_call 145;apply (JI y Oo (qDE hF) hQ).mono;rintro e w6 ⟨vD,rfl,d7,c7⟩);have b8:=bt (bt b1 b7) c7;have f7:=bt a9 b8;have f8:=e4.below Oo b8;have e7:∀q,vW.ownBlock=some q->vD.ownBlock≠some q:=λq h1 h2=>by
  have l1:=(d6.lt q h1).2;have l2:=(d7.lt q h2).1;have l3:=(bt b1 b7).size;omega
 have K:=qE (qB d6 b8) e5;have a5:=qE (B':=w.1.size+1) d7 (bM (bM e3 e6) (bt b1 b7).size);change Hh _ at hY hQ e7;clear PP SP V hF hg1 hg2 b1 b7 c7 a9 e4 d6 d7 b8;have g4:=ay (λW M=>qGy W vW x d5 M hP);have g5:=ay (Zh K);obtain⟨aW,cW,eW,-⟩:=Zh K;obtain⟨aD,cD,eD,-⟩:=Zh a5;change Hh _ at K a5;subst eW eD;go_wp2_with (go_at_call 149;apply (g4.o _ g5.o).mn;intro w7 b9;have d8:=f8.below Oo b9;obtain⟨c0,c1,c2,c3,c4⟩:=d8.five;obtain⟨d0,d1,d2,d3,d4⟩:=d8.frees);have⟨r0,r1,r2,r3,r4⟩:=(d8.five_set (.bool true) (ai (Cov.sm es.length x).num) (ai (Cov.sm es.length x).den) (.slice aW (prs es.length x).length cW) (.slice aD (prs bag.length y).length cD)).five;have c9:∀(v:Value) n xs,w7.ownsRow (w.1.size+1) 36 2 v n xs->(((((sC w7 w.1.size 0 (.bool true)).setCell (az w.1.size 1) (ai (Cov.sm es.length x).num)).setCell (az w.1.size 2) (ai (Cov.sm es.length x).den)).setCell (az w.1.size 3) (.slice aW (prs es.length x).length cW)).setCell (az w.1.size 4) (.slice aD (prs bag.length y).length cD)).ownsRow w.1.size 36 2 v n xs:=λv n xs hv=>qE (qD hv (λg hg=>by
  have:=(hv.lt g hg).1;rw[eG (by show g≠w.1.size;omega),eG (by show g≠w.1.size;omega),eG (by show g≠w.1.size;omega),eG (by show g≠w.1.size;omega),eG (by show g≠w.1.size;omega)])) Oo
 refine bodyPost_ret (by simp[results,results109,go_sem,r0,r1,r2,r3,r4]) rfl ⟨x,y,_,_,rfl,hX.o,hY.o,hP.o,hQ.o,c9 _ _ _ (qB K.o b9),c9 _ _ _ (qB a5.o b9),e7.o,?_⟩;exact(((((bt f7 b9).setCell eA _).setCell eA _).setCell eA _).setCell eA _).setCell eA _
theorem XE{p}(I:Sm B p)(hq:Sm C q)(h:B*C<=4500000000000000000):
 (-4500000000000000000<=p.num*(q.den:Int)/\p.num*(q.den:Int)<=4500000000000000000)/\(-4500000000000000000<=q.num*(p.den:Int)/\q.num*(p.den:Int)<=4500000000000000000)/\(-4500000000000000000<=(p.den:Int)*(q.den:Int)/\(p.den:Int)*(q.den:Int)<=4500000000000000000):=by
 exact⟨xF I.1 (show(q.den:Int).natAbs<=C by rw[zT];exact hq.2) h,xF (b:=p.den) (C:=B) hq.1 (by rw[zT];exact I.2) (by rw[Nat.mul_comm];exact h),xF (a:=p.den) (b:=q.den) (by rw[zT];exact I.2) (by rw[zT];exact hq.2) h⟩
theorem qFT p w(V:Sm B p)(hq:Sm C q)(h:B*C<=4500000000000000000):
 aG 139 #[.agg #[ai (p).num,ai (p).den],.agg #[ai (q).num,ai (q).den]] w (.agg #[ai (p+q).num,ai (p+q).den]):=by
 have⟨K,M,O⟩:=XE V hq h;have I:(p.den:Int)*(q.den:Int)≠0:=Int.mul_ne_zero (O1 p.den_nz) (O1 q.den_nz);have:=qCI _ _ _ _ w K.1 K.2 M.1 M.2 O.1 O.2 I;rw[jH (p.num*q.den+q.num*p.den) (p.den*q.den) I (p+q) (by
  rw[<-Rat.divInt_add_divInt _ _ (O1 p.den_nz) (O1 q.den_nz),aH,aH])]at this
 exact this
theorem qIV{p}w(V:Sm B p)(hq:Sm C q)(h:B*C<=4500000000000000000):
 aG 170 #[.agg #[ai (p).num,ai (p).den],.agg #[ai (q).num,ai (q).den]] w (.agg #[ai (p-q).num,ai (p-q).den]):=by
 have⟨K,M,O⟩:=XE V hq h;have I:(p.den:Int)*(q.den:Int)≠0:=Int.mul_ne_zero (O1 p.den_nz) (O1 q.den_nz);have:=qBC _ _ _ _ w K.1 K.2 M.1 M.2 O.1 O.2 I;rw[jH (p.num*q.den-q.num*p.den) (p.den*q.den) I (p-q) (by
  rw[<-Rat.divInt_sub_divInt _ _ (O1 p.den_nz) (O1 q.den_nz),aH,aH])]at this
 exact this
theorem qIW{p}w(K:Sm B p)(hq:Sm C q)(h:B*C<=4500000000000000000):
 aG 171 #[.agg #[ai (p).num,ai (p).den],.agg #[ai (q).num,ai (q).den]] w (.agg #[ai (p*q).num,ai (p*q).den]):=by
 have⟨V,h2,M⟩:=XE K hq h;have I:(p.den:Int)*(q.den:Int)≠0:=Int.mul_ne_zero (O1 p.den_nz) (O1 q.den_nz);have O:=xF K.1 hq.1 h;have:=qBD _ _ _ _ w O.1 O.2 M.1 M.2 I;rw[jH (p.num*q.num) (p.den*q.den) I (p*q) (by
  rw[<-Rat.divInt_mul_divInt,aH,aH])]at this
 exact this
theorem qFU p q w(V:Sm B p)(hq:Sm C q)(h:B*C<=4500000000000000000)(K:q≠0):
 aG 169 #[.agg #[ai (p).num,ai (p).den],.agg #[ai (q).num,ai (q).den]] w (.agg #[ai (p / q).num,ai (p / q).den]):=by
 have⟨M,h2,h3⟩:=XE V hq h;have I:(p.den:Int)*q.num≠0:=Int.mul_ne_zero (O1 p.den_nz) (Za K);have O:-4500000000000000000<=(p.den:Int)*q.num/\(p.den:Int)*q.num<=4500000000000000000:=by rw[Int.mul_comm];exact h2
 have:=qCK w M.1 M.2 O.1 O.2 I;rw[jH (p.num*q.den) (p.den*q.num) I (p / q) (by
  rw[<-Rat.divInt_mul_divInt,aH,<-Rat.inv_divInt,aH,Rat.div_def])]at this
 exact this
theorem kV{p}w(M:Sm B p)(hq:Sm C q)(h:B*C<=4500000000000000000):
 aG 72 #[.agg #[ai (p).num,ai (p).den],.agg #[ai (q).num,ai (q).den]] w (.bool (decide (p<q))):=by
 have⟨I,K,O⟩:=XE M hq h;have:=qCL w I.1 I.2 K.1 K.2;rw[show decide (p.num*(q.den:Int)<q.num*(p.den:Int))=decide (p<q) from by
  rw[decide_eq_decide];exact Rat.lt_iff p q|>.symm]at this
 exact this
structure Dem where
 pl:LN
 up:Bool
 bd:Int
def vV:Dem:=⟨[],false,0⟩
def Dem.dm(d:Dem):Cov.Dm:=⟨λi=>if i∈d.pl then 1 else 0,d.up,((d.bd:Int):Rat)⟩
structure xG(n:Nat)(d:Dem):Prop where
 nd:d.pl.Nodup
 lt:∀i∈d.pl,i<n
 len:d.pl.length<=7
 bd:d.bd=0\/d.bd=1
def lsum(l:LN)(x:NR):NR
 |0=>0
 |k+1=>lsum l x k+x (l.getD k 0)
theorem uf(l:LN)k(h:k<l.length)i:i∈l.take (k+1)↔i∈l.take k\/i=l.getD k 0:=by
 rw[tA,gE h,gD,gE h,cF];simp only[Option.toList_some,cI,dI]
theorem qCj{l}x(hn:l.Nodup)(hl:∀i∈l,i<n):∀k,k<=l.length->lsum l x k=Cov.sm n (λi=>(if i∈l.take k then 1 else 0)*x i)
 |0,_=>by
  symm;exact Cov.sm_zero (λi _=>Ss)
 |k+1,hk=>by
  have I:k<l.length:=Oo;have hm:l.getD k 0∈l:=by
   rw[gD,gE I];exact gM _
  have O:l.getD k 0∉l.take k:=by
   intro h;have⟨j,hj,e⟩:=List.mem_iff_getElem.1 h;rw[bZ]at hj;rw[List.getElem_take,gD,gE I]at e;simp only[dI]at e;exact(List.pairwise_iff_getElem.1 hn) j k Oo I Oo e
  show lsum l x k+x (l.getD k 0)=_;rw[qCj x hn hl k Oo];have e1:x (l.getD k 0)=Cov.sm n (λi=>(if i=l.getD k 0 then 1 else 0)*x i):=by
   rw[Cov.sm_single (hl _ hm) (λi _ V=>by rw[fF V];grind),fE rfl];grind
  rw[e1,<-Cov.sm_add];refine Cov.sm_congr (λi _=>?_);by_cases K:i∈l.take k;have M:i≠l.getD k 0:=λe=>O (e ▸ K);rw[fE K,fF M,fE ((uf l k I i).2 (.inl K))];grind;by_cases M:i=l.getD k 0;rw[fF K,fE M,fE ((uf l k I i).2 (.inr M))];grind;rw[fF K,fF M,fF (λh=>by rcases (uf l k I i).1 h with h3|h3;exact K h3;exact M h3)];grind
theorem qHM{d}x(h:xG n d):lsum d.pl x d.pl.length=d.dm.at n x:=by
 rw[qCj x h.nd h.lt _ eA,tL];rfl
theorem Y5{l D}(hl:∀i∈l,i<n)(I:∀j,j<n->Cov.Whole 5040 (x j*((D:Int):Rat))):∀k,k<=l.length->Cov.Whole (k*5040) (lsum l x k*((D:Int):Rat))
 |0,_=>⟨0,by show(0:Rat)*_=_;grind,Ss⟩
 |k+1,hk=>by
  have K:l.getD k 0∈l:=by
   rw[gD,gE Oo];exact gM _
  have:=(Y5 hl I k Oo).add (I _ (hl _ K));show Cov.Whole ((k+1)*5040) ((lsum l x k+x (l.getD k 0))*_);rw[show(lsum l x k+x (l.getD k 0))*((D:Int):Rat)=lsum l x k*((D:Int):Rat)+x (l.getD k 0)*((D:Int):Rat)by grind,show(k+1)*5040=k*5040+5040 by omega];exact this
theorem Parts.lsum(h:Parts n x){d}(hd:xG n d)(I:k<=d.pl.length):Sm 36000 (lsum d.pl x k):=by
 have⟨D,K,O,M⟩:=h;have hl:=hd.len;refine zb K Oo (Y5 hd.lt M k I) ?_;have:k*5040<=7*5040:=Nat.mul_le_mul Oo eA;omega
def Zi(n:Nat)(d:Dem)(x:NR):Bool:=if d.up then !decide (d.dm.b<d.dm.at n x) else !decide (d.dm.at n x<d.dm.b)
theorem qAA{d}:Zi n d x=true↔d.dm.meets n x:=by
 unfold Zi Cov.Dm.meets;cases h:d.up
 rw[show d.dm.up=false from h];simp only[Bool.false_eq_true,if_false,Bool.not_eq_true',aP];exact Rat.not_lt;rw[show d.dm.up=true from h];simp only[if_true,Bool.not_eq_true',aP];exact Rat.not_lt
theorem jK(w:World)x y t:Two (w.alloc (.cells #[ai x,ai y] t)) w.1.size x y:=
 ⟨by rw[eH rfl];rfl,by rw[eH rfl];rfl,eM rfl,eM rfl⟩
theorem Jj w u n d x(hx:IR w vx (prs n x))(hu:IntsAt w u d.pl)(hd:xG n d)(hp:Parts n x):
 aG 141 #[vx,.agg #[u,.bool d.up,ai d.bd]] w (.bool (Zi n d x)):=by
 obtain⟨a,cap,rfl,V⟩:=hx;obtain⟨a2,I,rfl,a3⟩:=hu;rw[qi]at V |-;have⟨m,hm⟩:=Ex d.pl.length;have d3:m<=7:=by rw[hm];exact hd.len
 rw[<-hm]at a3 |-;have c8:=ay V;have c9:=ay a3;have HD:=ay hd;have HP:=ay hp;have HM:=ay hm;have d4:-1<=d.bd/\d.bd<=1:=by rcases hd.bd with h|h <;> omega
 have HL:Hh (lsum d.pl x m=d.dm.at n x):=(by rw[hm];exact qHM x hd);clear V a3 hd hp hm;have a8:ArrAt (aJ w #[.slice a2 m I,.bool d.up,ai d.bd] 153) w.1.size 3 (f3 (.slice a2 m I) (.bool d.up) (ai d.bd)):=qj w 3 (f3 _ _ (ai d.bd)) _;have a4:Bl w (aJ w #[.slice a2 m I,.bool d.up,ai d.bd] 153):=aK;have a9:(aJ w #[.slice a2 m I,.bool d.up,ai d.bd] 153).1.size=w.1.size+1:=Ss;go_enter func141,ntmps141;go_upto_region 2 with fail;have a5:=a8.alloc Oo (.cells #[ai 0,ai 1] 36);have b1:=a4.alloc a4.size (.cells #[ai 0,ai 1] 36);have a6:=jK (aJ w #[.slice a2 m I,.bool d.up,ai d.bd] 153) 0 1 36;rw[a9]at a6;generalize (aJ w #[.slice a2 m I,.bool d.up,ai d.bd] 153).alloc (.cells #[ai 0,ai 1] 36)=W at *;have⟨p0,p1,p2⟩:=a5.three;have HX:=ay (And.intro a5 (And.intro b1 a6));clear a8 a4 a9 a5 b1 a6;go_wp2;go_loopw [13] (λt wr=>∃k:Nat,k<=m/\t=ai k/\Hh (ArrAt wr w.1.size 3 (f3 (.slice a2 m I) (.bool d.up) (ai d.bd))/\Bl w wr/\Two wr (w.1.size+1) (lsum d.pl x k).num (lsum d.pl x k).den)) (λt _=>m-(intOf t).toNat);exact⟨0,eC,rfl,HX⟩;clear HX p0 p1 p2;obtain⟨k,hk,rfl,M⟩:=hrel;by_cases b7:k<m
 .have i1:=aV b7;obtain⟨b,o,rfl,hy⟩:=c9 k b7;have d0:k<d.pl.length:=by rw[<-HM.o];exact b7
  have b8:d.pl.getD k 0∈d.pl:=by
   rw[gD,gE d0];exact gM _
  have O:=HD.o.lt _ b8;have d1:Hh (Sm 36000 (lsum d.pl x k)):=HP.o.lsum HD Oo;have b9:Hh (lsum d.pl x (k+1)=lsum d.pl x k+x (d.pl.getD k 0)):=rfl;have⟨j,hj⟩:=Ex (d.pl.getD k 0);rw[<-hj]at hy O b9;have cy:=(M.2.1.cell (bL w _ hy)).trans hy;rcases c8.o with h0|⟨b2,o2,rfl,K⟩;omega;have⟨e1,e2⟩:=K j O;rw[vE O]at e1 e2;have x1:aC wr b2 (o2+j*2) (ai (x j).num):=(M.2.1.cell (bL w _ e1)).trans e1;have x2:aC wr b2 (o2+j*2+1) (ai (x j).den):=(M.2.1.cell (bL w _ e2)).trans e2;have⟨t1,t2,t3,t4⟩:=M.2.2;have HX:=M;have j1:(j:Int)<n:=Oo;clear M hy e1 e2 K hj;generalize hq:lsum d.pl x k=q at *;have a7:w.1.size+1<wr.1.size:=bL _ _ t1;go_wp2_with fail;go_region_law (first|go_simp;go_at_call 139;apply (qFT q _ d1.o (HP.o.sm O) Dd).mn;intro w2 hb';have hb:=qf hb';have⟨s1,s2,s3,s4⟩:=HX.2.2.below a7 hb)
  all_goals
   have HF:Hh (ArrAt ((sC w2 (w.1.size+1) 0 (ai (q+x j).num)).setCell (az (w.1.size+1) 1) (ai (q+x j).den)) w.1.size 3 (f3 (sZ b o m I) (.bool d.up) (ai d.bd))/\Bl w ((sC w2 (w.1.size+1) 0 (ai (q+x j).num)).setCell (az (w.1.size+1) 1) (ai (q+x j).den))/\Two ((sC w2 (w.1.size+1) 0 (ai (q+x j).num)).setCell (az (w.1.size+1) 1) (ai (q+x j).den)) (w.1.size+1) (lsum d.pl x (k+1)).num (lsum d.pl x (k+1)).den):=⟨((HX.1.below Oo hb).move (eG (by show w.1.size≠w.1.size+1;omega))).move (eG (by show w.1.size≠w.1.size+1;omega)),((bt HX.2.1 hb).setCell (by show w.1.size<=w.1.size+1;omega) _).setCell (by show w.1.size<=w.1.size+1;omega) _,by rw[b9.o];exact(HX.2.2.below a7 hb).set _ _⟩
   clear hb hb' s1 s2 s3 s4
   go_wp2
   go_roundw;exact⟨k+1,Oo,Gg,HF⟩;exact Im
 obtain rfl:k=m:=Oo;have i1:=aY k;have⟨p0,p1,p2⟩:=M.1.three;obtain⟨t1,t2,-,-⟩:=M.2.2;rw[HL.o]at t1 t2;have hS:Sm 36000 (d.dm.at n x):=by rw[<-HL.o];exact HP.o.lsum HD (by rw[<-HM.o];exact eA)
 have HB:=ay M.2.1;have a7:w.1.size+1<wr.1.size:=bL _ _ t1;have c7:Sm 36000 (((d.bd:Int):Rat)):=⟨by show d.bd.natAbs<=36000;omega,by show 1<=36000;omega⟩;have d5:w.1.size<wr.1.size:=Oo;clear M;cases hup:d.up
 .rw[hup]at p1;have HR:Hh (Zi n d x=!decide (d.dm.at n x<((d.bd:Int):Rat))):=(by unfold Zi;rw[hup];rfl);have KL:Hh (∀W,Cl 72 #[.agg #[ai (d.dm.at n x).num,ai (d.dm.at n x).den],.agg #[ai d.bd,ai 1]] W λe w'=>e=.returned (.bool (decide (d.dm.at n x<((d.bd:Int):Rat))))/\Bl W w'):=λW=>kV W hS c7 Dd;generalize (d.dm.at n x).num=nu,(d.dm.at n x).den=de at *;go_wp2_with (go_at_call 72;apply (KL.o _).mono;rintro e w2 ⟨rfl,hb'⟩);go_ret;exact⟨qJ HR.o.symm,bt (HB.o.alloc HB.o.size _) hb'⟩
 rw[hup]at p1;have HR:Hh (Zi n d x=!decide (((d.bd:Int):Rat)<d.dm.at n x)):=(by unfold Zi;rw[hup];rfl);have KL:Hh (∀W,Cl 72 #[.agg #[ai d.bd,ai 1],.agg #[ai (d.dm.at n x).num,ai (d.dm.at n x).den]] W λe w'=>e=.returned (.bool (decide (((d.bd:Int):Rat)<d.dm.at n x)))/\Bl W w'):=λW=>kV W c7 hS Dd;generalize (d.dm.at n x).num=nu,(d.dm.at n x).den=de at *;go_wp2_with (go_at_call 72;apply (KL.o _).mono;rintro e w2 ⟨rfl,hb'⟩);go_ret;exact⟨qJ HR.o.symm,bt (HB.o.alloc HB.o.size _) hb'⟩
def j9(x y:NR):Nat->NB
 |0,_=>false
 |f+1,k=>if x k<y k then true else if y k<x k then false else j9 x y f (k+1)
def QJ(n:Nat)(most:Bool)(x y:NR):Bool:=if Cov.sm n x<Cov.sm n y then !most else if Cov.sm n y<Cov.sm n x then most else j9 x y n 0
theorem J6:∀f k,j9 x y f k=true↔Cov.Lex ((List.range' k f).map x) ((List.range' k f).map y)/\¬Cov.Lex ((List.range' k f).map y) ((List.range' k f).map x)
 |0,k=>by
  constructor;intro h;cases h
  rintro⟨_,h⟩;exact absurd trivial h
 |f+1,k=>by
  have V:=J6 f (k+1);rw[List.range'_succ,List.map_cons,List.map_cons];show(if x k<y k then true else if y k<x k then false else j9 x y f (k+1))=true↔(x k<y k\/(x k=y k/\Cov.Lex _ _))/\¬(y k<x k\/(y k=x k/\Cov.Lex _ _));by_cases I:x k<y k;rw[fE I];refine⟨λ_=>⟨.inl I,?_⟩,λ_=>rfl⟩;rintro (h|⟨h,_⟩) <;> grind;rw[fF I];by_cases K:y k<x k;rw[fE K];refine⟨(λh=>by cases h),?_⟩;rintro⟨h|⟨h,_⟩,_⟩ <;> grind;rw[fF K,V];have e:x k=y k:=Rr;constructor
  .rintro⟨M,O⟩;refine⟨.inr ⟨e,M⟩,?_⟩;rintro (h|⟨_,h⟩);exact K h;exact O h
  rintro⟨M,O⟩;refine⟨?_,λh=>O (.inr ⟨e.symm,h⟩)⟩;rcases M with h|⟨_,h⟩;exact absurd h I;exact h
def zS(most:Bool):Rat:=if most then -1 else 1
theorem J7:QJ n most x y=true↔Cov.Lex (Cov.key (zS most) n x) (Cov.key (zS most) n y)/\¬Cov.Lex (Cov.key (zS most) n y) (Cov.key (zS most) n x):=by
 unfold Cov.key;have M:=J6 (x:=x) (y:=y) n 0;rw[<-List.range_eq_range']at M;show QJ n most x y=true↔(zS most*Cov.sm n x<zS most*Cov.sm n y\/(zS most*Cov.sm n x=zS most*Cov.sm n y/\Cov.Lex _ _))/\¬(zS most*Cov.sm n y<zS most*Cov.sm n x\/(zS most*Cov.sm n y=zS most*Cov.sm n x/\Cov.Lex _ _));unfold QJ;by_cases O:Cov.sm n x<Cov.sm n y
 .rw[fE O];cases most
  have:zS false=1:=rfl;rw[this];refine⟨λ_=>⟨.inl Rr,?_⟩,λ_=>rfl⟩;rintro (h|⟨h,_⟩) <;> grind;have:zS true=-1:=rfl;rw[this];refine⟨(λh=>by cases h),?_⟩;rintro⟨h|⟨h,_⟩,_⟩ <;> grind
 rw[fF O];by_cases V:Cov.sm n y<Cov.sm n x
 .rw[fE V];cases most
  have:zS false=1:=rfl;rw[this];refine⟨(λh=>by cases h),?_⟩;rintro⟨h|⟨h,_⟩,_⟩ <;> grind;have:zS true=-1:=rfl;rw[this];refine⟨λ_=>⟨.inl Rr,?_⟩,λ_=>rfl⟩;rintro (h|⟨h,_⟩) <;> grind
 rw[fF V,M];have e:Cov.sm n x=Cov.sm n y:=Rr;rw[e];constructor
 .rintro⟨I,K⟩;refine⟨.inr ⟨rfl,I⟩,?_⟩;rintro (h|⟨_,h⟩);grind;exact K h
 rintro⟨I,K⟩;refine⟨?_,λh=>K (.inr ⟨rfl,h⟩)⟩;rcases I with h|⟨_,h⟩;grind;exact h
theorem ZU w v u x(M:u<=7)(h:IR w v (prs u x))(K:Parts u x):
 aG 98 #[v] w (.agg #[ai (Cov.sm u x).num,ai (Cov.sm u x).den]):=by
 have:=qCS w v h (by rw[qi];omega) (λk=>((Cov.sm k x).num,(Cov.sm k x).den)) rfl (λk W I=>by
  rw[qi]at I;rw[vE I];exact qFT _ W (K.sum Oo M) (K.sm I) Dd)
 rw[qi]at this;exact this
def zY(n:Nat)(L:List Dem):NQ:=λi j=>if j=n then (((L.getD i vV).bd:Int):Rat) else if j∈(L.getD i vV).pl then 1 else 0
theorem yL{l:List α}{d}(h:i<l.length):l.getD i d∈l:=by
 rw[gD,gE h];exact gM _
theorem qCO{L}(h:∀D∈L,xG n D)(I:r<L.length):Cov.Whole 1 (zY n L r j):=by
 unfold zY;split;refine⟨_,rfl,?_⟩;rcases (h _ (yL (d:=vV) I)).bd with e|e <;> rw[e] <;> decide;split;exact⟨1,rfl,Dd⟩;exact⟨0,rfl,Dd⟩
theorem Yc{L}r x:Cov.sm n (λj=>zY n L r j*x j)=(L.getD r vV).dm.at n x:=
 Cov.sm_congr (λj I=>by unfold zY;rw[fF Oo];rfl)
theorem qGo{L}r:zY n L r n=(L.getD r vV).dm.b:=fE rfl
section
variable {n c:Nat} {R0 R T:NQ} {B s:NN} {piv:NR}
theorem qGp(h:Cov.GJ n c R0 R T B s piv)(I:∀j,j<=n->∀r,r<n->Cov.Whole 1 (R0 r j))(O:n<=7):
 ∃D:Int,D≠0/\D.natAbs<=5040/\∀i,i<n->∀j,j<=n+n->Cov.Whole 5040 (T i j*D):=by
 have⟨D,V,hD,hW⟩:=h.inv.small (λj K r M=>by
  unfold Cov.solveA;split;exact I j Oo r M;split
  .split;exact⟨1,rfl,Dd⟩;exact⟨0,rfl,Dd⟩
  exact I n eA r M)
 have hf:=Yl O;exact⟨D,V,Oo,λi hi j K=>(hW i hi j K).mono hf⟩
theorem qG5(h:j<=n):Cov.cl n j<=n+n:=by
 unfold Cov.cl;split <;> omega
theorem qJY(h:Cov.GJ n c R0 R T B s piv)(I:∀j,j<=n->∀r,r<n->Cov.Whole 1 (R0 r j))(K:n<=7)(hi:i<n)(M:j<=n+n):Sm 5040 (T i j):=by
 have⟨D,O,V,hW⟩:=qGp h I K;exact zb O V (hW i hi j M) eA
theorem qFO(h:Cov.GJ n c R0 R T B s piv)(I:n<=7)(hi:i<c):Sm 5040 (piv i):=by
 have⟨D,K,V,M⟩:=h.pivsm i hi;have O:=Yl I;exact zb K Oo M O
theorem qFP(h:Cov.GJ n c R0 R T B s piv)(M:∀j,j<=n->∀r,r<n->Cov.Whole 1 (R0 r j))(O:n<=7)(V:c<=p)(I:p<n)(K:j<=n):Sm 5040 (R p j):=by
 rw[h.rowt p V I j K];exact qJY h M O (h.lt p I) (qG5 K)
theorem qFQ(h:Cov.GJ n c R0 R T B s piv)(O:∀j,j<=n->∀r,r<n->Cov.Whole 1 (R0 r j))(K:n<=7)(hi:i<n)(M:j<=n):Sm 25401600 (R i j):=by
 by_cases I:i<c;rw[h.rowd i I j M];exact((qFO h K I).mul (qJY h O K (h.lt i hi) (qG5 M))).mono Dd;exact(qFP h O K Oo hi M).mono Dd
theorem qJm(h:Cov.GJ n c R0 R T B s piv)(hw:∀j,j<=n->∀r,r<n->Cov.Whole 1 (R0 r j))(hn:n<=7)(M:c<=p)(hp:p<n)(O:R p c≠0)(V:k<n):Sm 25401600 (R k c / R p c):=by
 have⟨D,h0,hD,hW⟩:=qGp h hw hn;have I:Cov.cl n c=c:=fF Oo;have e1:R p c=T (s p) c:=by rw[h.rowt p M hp c Oo,I]
 have hq:∀a,a<n->Sm 5040 (T a c / T (s p) c):=by
  intro a ha;have⟨z1,e2,b1⟩:=hW a ha c Oo;have⟨z2,e3,b2⟩:=hW _ (h.lt p hp) c Oo;have hT:T (s p) c≠0:=by rw[<-e1];exact O
  have a3:((D:Int):Rat)≠0:=by
   intro e;exact h0 (by exact_mod_cast e)
  have hz:z2≠0:=by
   intro e;rw[e]at e3;have:T (s p) c*((D:Int):Rat)=0:=e3;rcases Rat.mul_eq_zero.1 this with e4|e4;exact hT e4;exact a3 e4
  refine zb hz b2 ⟨z1,?_,b1⟩ eA;rw[<-e2,<-e3];grind
 rw[e1];by_cases K:k<c;rw[h.rowd k K c Oo,I,show piv k*T (s k) c / T (s p) c=piv k*(T (s k) c / T (s p) c)by grind];exact((qFO h hn K).mul (hq _ (h.lt k V))).mono Dd;rw[h.rowt k Oo V c Oo,I];exact(hq _ (h.lt k V)).mono Dd
theorem qGq(h:Cov.GJ n c R0 R T B s piv)(I:∀j,j<=n->∀r,r<n->Cov.Whole 1 (R0 r j))(K:n<=7):Parts n (λi=>T (s i) (n+n)):=by
 have⟨D,M,O,V⟩:=qGp h I K;exact⟨D,M,O,λj hj=>V _ (h.lt j hj) _ eA⟩
end
def Ub(n:Nat)(L:List Dem)(x:NR):Prop:=∀y,(∀D∈L,D.dm.at n y=D.dm.b)->∀i,i<n->y i=x i
theorem XC{L:List α}{D d}(h:D∈L):∃r,r<L.length/\L.getD r d=D:=by
 have⟨r,I,e⟩:=List.mem_iff_getElem.1 h;exact⟨r,I,by rw[gD,gE I,<-e];rfl⟩
theorem qIP{L B}(K:L.length=n)(h:Cov.GJ n n (zY n L) R T B s piv):Ub n L (λi=>T (s i) (n+n)):=by
 intro y I i hi;refine(Cov.gj_end h).2 y (λr M=>?_) i hi;rw[Yc,qGo];exact I _ (yL Oo)
theorem qD8{L B}(hL:L.length=n)(h:Cov.GJ n c (zY n L) R T B s piv)(I:c<n)(K:∀p,c<=p->p<n->R p c=0):¬Cov.Kern n (L.map Dem.dm):=by
 intro M;have⟨d,O,V⟩:=Cov.gj_stuck h I K;have:=M d (λD hD=>by
  obtain⟨E,hE,rfl⟩:=cC.1 hD;have⟨r,hr,e⟩:=XC (d:=vV) hE;have:=V r Oo;rw[Yc,e]at this;exact this) c I
 rw[O]at this;exact absurd this Dd
theorem qIQ{L B}(hL:L.length=n)(h:Cov.GJ n n (zY n L) R T B s piv):Cov.Kern n (L.map Dem.dm):=by
 intro d hd i hi;have K:∀i,i<n->∀j,j<n->T (s i) j=if i=j then 1 else 0:=by
  intro i hi j I;have:=h.inv.unit _ (h.lt i hi) _ (h.lt j I);rw[h.done j I]at this;rw[this];by_cases e:i=j;rw[fE e,fE (by rw[e])];rw[fF e,fF (λM=>e (h.inj i hi j I M))]
 have hh:Cov.Hom n (n+n) (Cov.solveA n (zY n L)) (λj=>if j<n then d j else 0):=by
  intro r hr;rw[Cov.sm_app];have O:Cov.sm n (λj=>(if j<n then d j else 0)*Cov.solveA n (zY n L) j r)=Cov.sm n (λj=>zY n L r j*d j):=Cov.sm_congr (λj I=>by
   unfold Cov.solveA;rw[fE I,fE I];grind)
  have M:Cov.sm n (λi=>(if n+i<n then d (n+i) else 0)*Cov.solveA n (zY n L) (n+i) r)=0:=Cov.sm_zero (λi _=>by rw[fF Oo];grind);rw[O,M,Yc,hd _ (cC.2 ⟨_,yL Oo,rfl⟩)];grind
 have h1:=h.inv.hom_rows hh _ (h.lt i hi);rw[Cov.sm_app]at h1;have O:Cov.sm n (λj=>T (s i) j*(if j<n then d j else 0))=d i:=by
  rw[Cov.sm_single (k:=i) hi];rw[K i hi i hi,fE rfl,fE hi];grind;intro j I V;rw[K i hi j I,fF (λe=>V e.symm)];grind
 have M:Cov.sm n (λk=>T (s i) (n+k)*(if n+k<n then d (n+k) else 0))=0:=Cov.sm_zero (λk _=>by rw[fF Oo];grind);rw[O,M]at h1;grind
structure Yd(n:Nat)(most:Bool)(all:List Dem)(x:NR):Prop where
 meets:∀D∈all,D.dm.meets n x
 least:∀y,(∀D∈all,D.dm.meets n y)->Cov.Lex (Cov.key (zS most) n x) (Cov.key (zS most) n y)
def Compl(n:Nat)(all:List Dem)(x:NR)(k:Nat)(ch:List Dem):Prop:=
 ∃S,S.Sublist (all.drop k)/\ch.length+S.length=n/\(∀D∈ch++S,D.dm.at n x=D.dm.b)/\Cov.Kern n ((ch++S).map Dem.dm)
def InP(n:Nat)(all:List Dem)(b:NR):Prop:=∀D∈all,D.dm.meets n b
def XD(n:Nat)(x:NR):Option (NR)->Prop
 |none=>False
 |some b=>∀i,i<n->b i=x i
theorem qCP{all}(h:Yd n most all x):Compl n all x 0 []:=by
 have⟨S,K,M,O,V⟩:=Cov.corner_exists _ x (λD I=>by
  obtain⟨E,hE,rfl⟩:=cC.1 I;exact h.meets E hE) (λy hy=>h.least y (λD I=>hy _ (cC.2 ⟨D,I,rfl⟩)))
 obtain⟨S',hs,rfl⟩:=List.sublist_map_iff.1 K;refine⟨S',by rw[List.drop_zero];exact hs,by simpa using M,λD I=>?_,by simpa using V⟩;exact O _ (cC.2 ⟨D,by simpa using I,rfl⟩)
theorem qD9{all ch}(K:k<all.length)(h:Compl n all x k ch):
 Compl n all x (k+1) (ch++[all.getD k vV])\/Compl n all x (k+1) ch:=by
 have⟨S,M,O,V,h4⟩:=h;rw[List.drop_eq_getElem_cons K]at M;have e:all.getD k vV=all[k]:=by rw[gD,gE K];rfl
 rw[e];rcases List.sublist_cons_iff.1 M with I|⟨S',rfl,I⟩;exact .inr ⟨S,I,O,V,h4⟩;refine .inl ⟨S',I,by simp at O |-;omega,λD hD=>V D (by simpa using hD),by simpa using h4⟩
theorem qEA{all ch}(h:Compl n all x k ch)(K:all.length<k+n-ch.length)(hka:k<=all.length):False:=by
 obtain⟨S,I,M,-,-⟩:=h;have:=I.length_le;rw[dP]at this;omega
theorem Vd{all ch}(h:Compl n all x k ch)(M:ch.length=n):(∀D∈ch,D.dm.at n x=D.dm.b)/\Cov.Kern n (ch.map Dem.dm):=by
 have⟨S,O,V,I,K⟩:=h;have:S=[]:=dV.1 Oo;subst this;rw[dU]at I K;exact⟨I,K⟩
theorem qBd{v}(h:∀i,i<n->b i=x i):Cov.key v n b=Cov.key v n x:=Cov.key_congr h
theorem qFR{all}(hs:Yd n most all x)(M:InP n all y)(I:QJ n most y b=true)(hb:XD n x (some b)):XD n x (some y):=by
 have K:=J7.1 I;have e:=qBd (v:=zS most) hb;rw[e]at K;exact absurd (hs.least y M) K.2
theorem qFS{all}(hs:Yd n most all x)(hb:InP n all b)(I:QJ n most y b=false)(O:∀i,i<n->y i=x i):XD n x (some b):=by
 have e:=qBd (v:=zS most) O;have K:¬(Cov.Lex (Cov.key (zS most) n y) (Cov.key (zS most) n b)/\¬Cov.Lex (Cov.key (zS most) n b) (Cov.key (zS most) n y)):=λh=>by
  rw[J7.2 h]at I;cases I
 rw[e]at K;have M:=hs.least b hb;exact Cov.key_inj (Cov.Lex.antisymm (Classical.byContradiction λh=>K ⟨M,h⟩) M)
def RwIs(w:World)(g:Nat)(t:TypeId)(n:Nat)(f:Nat->Value):Prop:=
 ∃cur:AV,w.1[g]?=some (.cells cur t (0,0))/\∀i,i<n->cur[i]?=some (f i)
section
variable {w w':World} {g h n:Nat} {t t':TypeId} {f f':Nat->Value}
theorem RwIs.cell(H:RwIs w g t n f)(hi:i<n):w.cell? (az g i)=some (f i):=by
 have⟨c,hb,I⟩:=H;simp[World.cell?,hb,I i hi]
theorem RwIs.free(H:RwIs w g t n f)i:w.frozen? (az g i)=false:=by
 have⟨c,hb,_⟩:=H;simp[World.frozen?,hb]
theorem RwIs.lt(H:RwIs w g t n f):g<w.1.size:=by
 have⟨c,hb,_⟩:=H;have⟨I,_⟩:=dK.1 hb;exact I
theorem RwIs.congr(H:RwIs w g t n f)(e:∀i,i<n->f i=f' i):RwIs w g t n f':=by
 have⟨c,hb,I⟩:=H;exact⟨c,hb,λi hi=>by rw[I i hi,e i hi]⟩
theorem RwIs.of_block(H:RwIs w g t n f)(e:w'.1[g]?=w.1[g]?):RwIs w' g t n f:=by
 have⟨c,hb,I⟩:=H;exact⟨c,e.trans hb,I⟩
theorem RwIs.below(H:RwIs w g t n f)(hb:Bl w w'):RwIs w' g t n f:=H.of_block (hb.block g H.lt)
theorem RwIs.set(H:RwIs w g t n f)i v:RwIs (w.setCell (az g i) v) g t n (λj=>if j=i then v else f j):=by
 have⟨c,hb,K⟩:=H;refine⟨c.setIfInBounds i v,?_,λj M=>?_⟩;simp[World.setCell,Array.getElem?_modify,hb];have I:j<c.size:=by
  have:=K j M;exact(dK.1 this).1
 rw[Array.getElem?_setIfInBounds];by_cases e:j=i;subst e;simp[I];rw[fF (λh=>e h.symm)];show c[j]?=some (if j=i then v else f j);rw[fF e];exact K j M
theorem RwIs.other(H:RwIs w g t n f)(I:g≠h)i v:RwIs (w.setCell (az h i) v) g t n f:=H.of_block (eG I)
theorem RwIs.ne(H:RwIs w g t n f)(K:RwIs w h t' m f')(I:t≠t'):g≠h:=by
 rintro rfl;have⟨c,hb,_⟩:=H;obtain⟨c',hb',_⟩:=K;rw[hb]at hb';simp only[oI,Obj.cells.injEq]at hb';exact I hb'.2.1
end
def UH(r:NR):Nat->Value:=λk=>if k % 2=0 then ai (r (k / 2)).num else ai (r (k / 2)).den
def RowAt(w:World)(g n:Nat)(r:NR):Prop:=RwIs w g 36 ((n+1)*2) (UH r)
section
variable {w w':World} {g h n:Nat} {r:NR}
theorem RowAt.num(H:RowAt w g n r)(I:j<=n):w.cell? (az g (j*2))=some (ai (r j).num):=by
 rw[RwIs.cell H Oo];unfold UH;rw[fE Oo,show j*2 / 2=j by omega]
theorem RowAt.den(H:RowAt w g n r)(I:j<=n):w.cell? (az g (j*2+1))=some (ai (r j).den):=by
 rw[RwIs.cell H Oo];unfold UH;rw[fF Oo,show(j*2+1) / 2=j by omega]
theorem RowAt.set(H:RowAt w g n r)j q:RowAt ((w.setCell (az g (j*2)) (ai q.num)).setCell (az g (j*2+1)) (ai q.den)) g n (λi=>if i=j then q else r i):=by
 refine RwIs.congr (RwIs.set (RwIs.set H _ _) _ _) (λk M=>?_);unfold UH;show _=if k % 2=0 then Value.int IntKind.i64 (if k / 2=j then q else r (k / 2)).num else Value.int IntKind.i64 (if k / 2=j then q else r (k / 2)).den
 by_cases I:k=j*2+1;rw[fE I,fF Oo,fE Oo];rw[fF I];by_cases K:k=j*2;rw[fE K,fE Oo,fE Oo];rw[fF K,fF (show ¬k / 2=j by omega)]
theorem RowAt.other(H:RowAt w g n r)(I:g≠h)i k v u:RowAt ((w.setCell (az h i) v).setCell (az h k) u) g n r:=RwIs.other (RwIs.other H I i v) I k u
theorem RowAt.congr{I}(H:RowAt w g n r)(e:∀j,j<=n->r j=I j):RowAt w g n I:=by
 refine RwIs.congr H (λk K=>?_);unfold UH;rw[e (k / 2) Oo]
theorem qJL k:∀j,j<k->(zs k)[j*2]?=some (ai 0)/\(zs k)[j*2+1]?=some (ai 1):=by
 induction k with
 |zero=>intro j I;omega
 |succ k ih=>
  intro j I;have hl:(zs k).length=k*2:=by simp[zs]
  rw[qDF];by_cases e:j<k;rw[aL Oo,aL Oo];exact ih j e;obtain rfl:j=k:=Oo;rw[bQ Oo,bQ Oo,hl];simp
theorem qGL(H:w.ownsRow B 36 2 v (n+1) (zs (n+1))):∃g cap,v=sZ g 0 (n+1) cap/\B<=g/\g<w.1.size/\RowAt w g n (λ_=>0):=by
 rcases H.2 with ⟨_,h⟩|⟨g,cap,cur,rfl,hb,V,hn,-,-,ht⟩;omega;have I:RowAt w g n (λ_=>0):=by
  refine⟨cur,V,λi hi=>?_⟩;have e:cur[i]?=(zs (n+1))[i]?:=by
   rw[<-ht,cL hi,dY]
  rw[e];unfold UH;have⟨K,M⟩:=qJL (n+1) (i / 2) Oo;by_cases O:i % 2=0;rw[fE O];rw[show i / 2*2=i by omega]at K;exact K;rw[fF O];rw[show i / 2*2+1=i by omega]at M;exact M
 exact⟨g,cap,rfl,hb,I.lt,I⟩
end
structure Mat(w:World)(B G n:Nat)(g cp:NN)(R:NQ):Prop where
 top:RwIs w G 35 n (λi=>sZ (g i) 0 (n+1) (cp i))
 row:∀i,i<n->RowAt w (g i) n (R i)
 inj:∀i,i<n->∀k,k<n->g i=g k->i=k
 base:B<=G/\∀i,i<n->B<=g i
section
variable {w w':World} {B G n:Nat} {g cp:NN} {R R':NQ}
theorem Mat.ne(H:Mat w B G n g cp R)(hi:i<n):g i≠G:=RwIs.ne (H.row i hi) H.top Dd
theorem Mat.below(H:Mat w B G n g cp R)(hb:Bl w w'):Mat w' B G n g cp R:=⟨H.top.below hb,λi hi=>RwIs.below (H.row i hi) hb,H.inj,H.base⟩
theorem Mat.congr(H:Mat w B G n g cp R)(e:∀i,i<n->∀j,j<=n->R i j=R' i j):Mat w B G n g cp R':=⟨H.top,λi hi=>(H.row i hi).congr (e i hi),H.inj,H.base⟩
theorem Mat.head(H:Mat w B G n g cp R)(hi:i<n):w.cell? (az G i)=some (sZ (g i) 0 (n+1) (cp i)):=H.top.cell hi
theorem Mat.swap(H:Mat w B G n g cp R)(O:c<n)(V:p<n):
 Mat ((w.setCell (az G p) (sZ (g c) 0 (n+1) (cp c))).setCell (az G c) (sZ (g p) 0 (n+1) (cp p))) B G n (Cov.swp g c p) (Cov.swp cp c p) (Cov.swpR R c p):=by
 refine⟨RwIs.congr ((H.top.set p _).set c _) (λi _=>?_),λi hi=>?_,λi hi k K e=>?_,H.base.1,λi hi=>?_⟩
 .unfold Cov.swp;by_cases e1:i=c;rw[fE e1,fE e1,fE e1];rw[fF e1,fF e1,fF e1];by_cases e2:i=p;rw[fE e2,fE e2,fE e2];rw[fF e2,fF e2,fF e2]
 .have K:∀k,k<n->RowAt ((sC w G p (sZ (g c) 0 (n+1) (cp c))).setCell (az G c) (sZ (g p) 0 (n+1) (cp p))) (g k) n (R k):=λk K=>(H.row k K).other (H.ne K) _ _ _ _;unfold Cov.swp Cov.swpR;split;exact K p V;split;exact K c O;exact K i hi
 .have I:=H.inj;unfold Cov.swp at e;by_cases a1:i=c
  .by_cases M:k=c;omega;rw[fE a1,fF M]at e;by_cases b2:k=p;rw[fE b2]at e;have:=I p V c O e;omega;rw[fF b2]at e;have:=I p V k K e;omega
  rw[fF a1]at e;by_cases a2:i=p
  .rw[fE a2]at e;by_cases M:k=c;rw[fE M]at e;have:=I c O p V e;omega;rw[fF M]at e;by_cases b2:k=p;omega;rw[fF b2]at e;have:=I c O k K e;omega
  rw[fF a2]at e;by_cases M:k=c;rw[fE M]at e;have:=I i hi p V e;omega;rw[fF M]at e;by_cases b2:k=p;rw[fE b2]at e;have:=I i hi c O e;omega;rw[fF b2]at e;exact I i hi k K e
 unfold Cov.swp;split;exact H.base.2 p V;split;exact H.base.2 c O;exact H.base.2 i hi
theorem Mat.set(H:Mat w B G n g cp R)(I:r<n)j q:
 Mat ((w.setCell (az (g r) (j*2)) (ai q.num)).setCell (az (g r) (j*2+1)) (ai q.den)) B G n g cp (λi k=>if i=r/\k=j then q else R i k):=by
 refine⟨(H.top.other (λe=>H.ne I e.symm) _ _).other (λe=>H.ne I e.symm) _ _,λi hi=>?_,H.inj,H.base⟩;by_cases e:i=r
 .subst e;exact((H.row i hi).set j q).congr (λk _=>by
   by_cases e:k=j;rw[fE e,fE ⟨rfl,e⟩];rw[fF e,fF (λh=>e h.2)])
 exact((H.row i hi).other (λh=>e (H.inj i hi r I h)) _ _ _ _).congr (λk _=>by rw[fF (λh=>e h.1)])
end
structure Rws(w:World)(B n k:Nat)(vr:Value)(vs:LV)(g cp:NN)(R:NQ):Prop where
 own:w.ownsRow B 35 1 vr k vs
 len:vs.length=k
 val:∀i,i<k->vs.getD i undef=sZ (g i) 0 (n+1) (cp i)
 row:∀i,i<k->RowAt w (g i) n (R i)
 inj:∀i,i<k->∀j,j<k->g i=g j->i=j
 base:∀i,i<k->B<=g i
section
variable {w w':World} {B n k:Nat} {vr:Value} {vs:LV} {g cp:NN} {R:NQ}
theorem Rws.below(H:Rws w B n k vr vs g cp R)(hb:Bl w w'):Rws w' B n k vr vs g cp R:=⟨qB H.own hb,H.len,H.val,λi hi=>RwIs.below (H.row i hi) hb,H.inj,H.base⟩
theorem RwIs.typ{g t f}(H:RwIs w g t n f):∃cur,w.1[g]?=some (.cells cur t (0,0)):=by
 have⟨c,hb,_⟩:=H;exact⟨c,hb⟩
theorem Rws.other(H:Rws w B n k vr vs g cp R){f}(K:RwIs w c 36 m f)(I:∀i,i<k->g i≠c)a v:Rws (w.setCell (az c a) v) B n k vr vs g cp R:=
 ⟨qD H.own (λq hq=>eG (λe=>own_ne H.own K.typ Dd (by rw[hq];exact congrArg _ e.symm))),H.len,H.val,λi hi=>RwIs.other (H.row i hi) (I i hi) _ _,H.inj,H.base⟩
theorem Rws.step{w3 o M cap r}(H:Rws w B n k vr vs g cp R)(hr:RowAt w c n r)(a3:B<=c)(I:∀i,i<k->g i≠c)(hR:∀j,j<=n->r j=R k j)
 (O:w3.ownsRow B 35 1 M (k+1) (vs++[sZ c 0 (n+1) cap])) (hg:(w.alloc o).grownBy w3 vr.ownBlock):
 Rws w3 B n (k+1) M (vs++[sZ c 0 (n+1) cap]) (λi=>if i=k then c else g i) (λi=>if i=k then cap else cp i) R:=by
 have hsz:(w.alloc o).1.size=w.1.size+1:=Ss;have K:∀{q:Nat} {f:NR},RowAt w q n f->RowAt w3 q n f:=λh=>RwIs.of_block h ((λb hb I=>(hg.block b Oo I).trans (eL hb)) _ h.lt (own_ne H.own h.typ Dd));refine⟨O,by rw[lA,H.len];rfl,λi hi=>?_,λi hi=>?_,λi hi j hj e=>?_,λi hi=>?_⟩
 .by_cases e:i=k;subst e;rw[fE rfl,fE rfl,gD,bQ (by rw[H.len];exact eA),H.len];simp;rw[fF e,fF e,gD,aL (by rw[H.len];omega),<-gD];exact H.val i Oo
 .by_cases e:i=k;subst e;rw[fE rfl];exact(K hr).congr hR;rw[fF e];exact K (H.row i Oo)
 .by_cases e1:i=k
  .by_cases V:j=k;omega;rw[fE e1,fF V]at e;exact absurd e.symm (I j Oo)
  by_cases V:j=k;rw[fF e1,fE V]at e;exact absurd e (I i Oo);rw[fF e1,fF V]at e;exact H.inj i Oo j Oo e
 by_cases e:i=k;rw[fE e];exact a3;rw[fF e];exact H.base i Oo
theorem Rws.mat(H:Rws w B n n vr vs g cp R)(M:0<n):∃G cap,vr=sZ G 0 n cap/\Mat w B G n g cp R:=by
 rcases H.own.2 with ⟨_,h⟩|⟨G,cap,cur,rfl,hb,I,-,-,-,K⟩;omega;refine⟨G,cap,rfl,⟨cur,I,λi hi=>?_⟩,H.row,H.inj,hb,H.base⟩;have e:cur[i]?=vs[i]?:=by
  rw[<-K,cL Oo,dY]
 rw[e];have:=H.val i hi;rw[gD,gE (by rw[H.len];exact hi)]at this;rw[gE (by rw[H.len];exact hi)];simpa using this
end
end
variable {k:Int}{a b bag l:LI}{es bs:LL}{B i n p r N j e o:Nat}{f x y:NR}{v vb I vw ve vp V vx vy:Value}{w w' wr W:World}{ps:List (Value×Dem)}{P:Nat->Prop}{q:Rat}{ws:LP}
def dcs(ps:List (Value×Dem)):LV:=ps.flatMap λp=>[p.1,.bool p.2.up,ai p.2.bd]
def pd0:Value×Dem:=(undef,vV)
theorem qCk ps:(dcs ps).length=ps.length*3:=by
 induction ps with
 |nil=>rfl
 |cons p ps ih=>
  show([p.1,.bool p.2.up,ai p.2.bd]++dcs ps).length=_;rw[lA,ih,cQ];simp only[cQ,List.length_nil];omega
theorem qAB ps p:dcs (ps++[p])=dcs ps++[p.1,.bool p.2.up,ai p.2.bd]:=by
 simp[dcs]
theorem XP:∀ps i,i<ps.length->(dcs ps)[i*3]?=some (ps.getD i pd0).1/\(dcs ps)[i*3+1]?=some (.bool (ps.getD i pd0).2.up)/\(dcs ps)[i*3+2]?=some (ai (ps.getD i pd0).2.bd)
 |[],i,h=>by simp at h
 |p::ps,0,_=>⟨rfl,rfl,rfl⟩
 |p::ps,i+1,h=>by
  have:=XP ps i (by simpa using h);have e:dcs (p::ps)=[p.1,.bool p.2.up,ai p.2.bd]++dcs ps:=rfl;rw[e];rw[bQ Sy,bQ Sy,bQ Sy];simp only[cQ,List.length_nil];rw[show(i+1)*3-(0+1+1+1)=i*3 by omega,show(i+1)*3+1-(0+1+1+1)=i*3+1 by omega,show(i+1)*3+2-(0+1+1+1)=i*3+2 by omega];exact this
structure DP(w:World)(v:Value)(ps:List (Value×Dem)):Prop where
 sl:∃a cap,v=.slice a ps.length cap/\(ps.length=0\/∃b o,a=some (az b o)/\∀j u,(dcs ps)[j]?=some u->w.cell? (az b (o+j))=some u)
 each:∀p∈ps,IntsAt w p.1 p.2.pl
theorem DP.below(h:DP w v ps)(hb:Bl w w'):DP w' v ps:=by
 have⟨⟨a,cap,e,I⟩,M⟩:=h;refine⟨⟨a,cap,e,?_⟩,λp O=>(M p O).below hb⟩;rcases I with V|⟨b,o,ea,I⟩;exact .inl V;exact .inr ⟨b,o,ea,λj u K=>(hb.cell (bL w _ (I j u K))).trans (I j u K)⟩
theorem qEb(h:w.ownsRow B 153 3 v ps.length (dcs ps))(O:∀p∈ps,IntsAt w p.1 p.2.pl):DP w v ps:=by
 refine⟨?_,O⟩;rcases h.2 with ⟨rfl,K⟩|⟨g,cap,cur,rfl,hb',V,hn,-,-,ht⟩;exact⟨none,0,by rw[K],.inl K⟩;refine⟨_,cap,rfl,.inr ⟨g,0,rfl,λj u M=>?_⟩⟩;have I:j<ps.length*3:=by
  have:=(List.getElem?_eq_some_iff.1 M).1;rw[qCk]at this;exact this
 rw[eI V,cU,<-M,<-ht,cL I,dY]
theorem qHN(h:DP w v ps):∀u∈dcs ps,u.oneCell'=true:=by
 intro u K;have⟨p,M,I⟩:=List.mem_flatMap.1 K;obtain⟨a,cap,e,-⟩:=h.each p M;simp only[cH,List.not_mem_nil,or_false]at I;rcases I with rfl|rfl|rfl;rw[e];rfl;rfl;rfl
theorem QL(ps:List (Value×Dem))i:(ps.map Prod.snd).getD i vV=(ps.getD i pd0).2:=by
 rw[gD,bK,gD];cases ps[i]? <;> rfl
def BestAt(w:World)(n:Nat)(all:List Dem)(v:Value):Option (NR)->Prop
 |none=>∃a cap,v=.slice a 0 cap
 |some b=>IR w v (prs n b)/\InP n all b/\Parts n b
theorem IR.below'{l}(h:IR w v l)(hb:Bl w w'):IR w' v l:=by
 have⟨a,cap,e,h⟩:=h;refine⟨a,cap,e,?_⟩;rcases h with M|⟨b,o,O,I⟩;exact .inl M;exact .inr ⟨b,o,O,λj K=>⟨(hb.cell (bL w _ (I j K).1)).trans (I j K).1,(hb.cell (bL w _ (I j K).2)).trans (I j K).2⟩⟩
theorem BestAt.below{all b}(h:BestAt w n all v b)(hb:Bl w w'):BestAt w' n all v b:=by
 cases b with
 |none=>exact h
 |some b=>exact⟨h.1.below' hb,h.2⟩
def yF(n:Nat):List Dem:=(List.range n).map λi=>⟨[i],false,0⟩
def xQ(L:List (LN)):List Dem:=L.map λl=>⟨l,false,1⟩
def QU(bag:LI)(es:LL):List Dem:=xQ (qX bag es)++yF es.length
theorem qCh(hi:i<n)b z x:(Dem.dm ⟨[i],b,z⟩).at n x=x i:=by
 show Cov.sm n (λj=>(if j∈[i] then 1 else 0)*x j)=x i;rw[Cov.sm_single hi (λj _ I=>by rw[fF (λh=>I (cI.1 h))];grind),fE (cI.2 rfl)];grind
theorem K8:(∀D∈yF n,D.dm.meets n x)↔∀i,i<n->0<=x i:=by
 constructor;intro h i hi;have:=h _ (cC.2 ⟨i,cJ.2 hi,rfl⟩);have e:=qCh hi false 0 x;unfold Cov.Dm.meets at this;rw[e]at this;exact this;intro h D I;obtain⟨i,hi,rfl⟩:=cC.1 I;have hi:=cJ.1 hi;unfold Cov.Dm.meets;rw[qCh hi];exact h i hi
theorem qBz{L:List (LN)}{l}(h:l∈L):∃r,r<L.length/\L.getD r []=l:=XC h
theorem Uz:InP es.length (QU bag es) x↔Cov.Cover bag.length es.length (inc (qX bag es)) x:=by
 unfold InP QU Cov.Cover;rw[show(∀D∈xQ (qX bag es)++yF es.length,D.dm.meets es.length x)↔(∀D∈xQ (qX bag es),D.dm.meets es.length x)/\(∀D∈yF es.length,D.dm.meets es.length x) from
  ⟨λh=>⟨λD I=>h D (cF.2 (.inl I)),λD I=>h D (cF.2 (.inr I))⟩,λh D I=>(cF.1 I).elim (h.1 D) (h.2 D)⟩,K8,and_comm]
 refine and_congr Iff.rfl ?_;constructor;intro h r K;rw[<-yz bag es]at K;exact h _ (cC.2 ⟨_,yL K,rfl⟩);intro h D I;obtain⟨l,hl,rfl⟩:=cC.1 I;obtain⟨r,K,rfl⟩:=qBz hl;rw[yz]at K;exact h r K
theorem qDV(h:zk bag.length es.length (inc (qX bag es)) x):Yd es.length false (QU bag es) x:=
 ⟨Uz.2 h.1,λy I=>h.2 y (Uz.1 I)⟩
theorem qEY{p k}:(plN p k).Nodup:=List.Pairwise.filter _ List.nodup_range
theorem qEZ(I:es.length<=7):∀D∈QU bag es,xG es.length D:=by
 intro D K;rcases cF.1 K with h|h;obtain⟨l,hl,rfl⟩:=cC.1 h;obtain⟨v,_,rfl⟩:=cC.1 hl;exact⟨qEY,λi hi=>(uc.1 hi).1,bM (Vt _ _) I,.inr rfl⟩;obtain⟨i,hi,rfl⟩:=cC.1 h;exact⟨Ss,λj M=>by rw[cI.1 M];exact cJ.1 hi,Ss,.inl rfl⟩
theorem qEa(h:∀i,i<n->x i=y i):prs n x=prs n y:=by
 unfold prs;exact cV (λi hi=>by rw[h i (cJ.1 hi)])
def qY(bag e:LI):LI:=e.filter λv=>decide (v∈bag)
def vJ(a b:LI):Bool:=a.all λx=>decide (x∈b)
def Q5(bag:LI)(es:LL)(i j:Nat):Bool:=
 decide (j≠i)&&vJ (qY bag (es.getD i [])) (qY bag (es.getD j []))&&(decide ((qY bag (es.getD i [])).length<(qY bag (es.getD j [])).length)||decide (j<i))
def uL(bag:LI)(es:LL)(i:Nat):Bool:=
 decide (0<(qY bag (es.getD i [])).length)&&(List.range es.length).all λj=>!Q5 bag es i j
def zw(bag:LI)(es:LL):LN:=(List.range es.length).filter (uL bag es)
def xB(bag:LI)(es:LL):LL:=(zw bag es).map λi=>qY bag (es.getD i [])
theorem yq:vJ a b=true↔∀x∈a,x∈b:=by simp[vJ]
theorem uu{e x}:x∈qY bag e↔x∈e/\x∈bag:=by simp[qY]
theorem qDs{f:NN}(M:∀i,P i->f i<=N)(hi:P i):∃j,P j/\∀k,P k->f k<=f j:=by
 refine Classical.byContradiction λI=>?_;have step:∀n,∃j,P j/\n<=f j:=by
  intro n;induction n with
  |zero=>exact⟨i,hi,eC⟩
  |succ n ih=>
   have⟨j,K,O⟩:=ih;refine Classical.byContradiction λV=>I ⟨j,K,λk hk=>?_⟩;refine Classical.byContradiction λh3=>V ⟨k,hk,Oo⟩
 have⟨j,K,O⟩:=step (N+1);have:=M j K;omega
theorem qDt(hi:P i):∃j,P j/\∀k,P k->j<=k:=by
 refine Classical.byContradiction λI=>?_;have step:∀n k,k<n->¬P k:=by
  intro n;induction n with
  |zero=>intro k M;omega
  |succ n ih=>
   intro k M K;by_cases e:k<n;exact ih k e K;refine I ⟨k,K,λm O=>?_⟩;refine Classical.byContradiction λV=>ih m Oo O
 exact step (i+1) i Oo hi
theorem je(I:a.Nodup)(h:∀x∈a,x∈b):a.length<=b.length:=by
 induction a generalizing b with
 |nil=>simp
 |cons x a ih=>
  have K:=h x cY;rw[List.nodup_cons]at I;have O:=ih (b:=b.erase x) I.2 (λy M=>by
   have:y≠x:=λe=>I.1 (e ▸ M);exact(List.mem_erase_of_ne this).2 (h y (mC _ M)))
  rw[List.length_erase_of_mem K]at O;have:=List.length_pos_of_mem K;simp only[cQ];omega
theorem U8(hn:∀i,i<es.length->(es.getD i []).Nodup)(hi:i<es.length)(h0:0<(qY bag (es.getD i [])).length):
 ∃j,j<es.length/\uL bag es j=true/\vJ (qY bag (es.getD i [])) (qY bag (es.getD j []))=true:=by
 have a4:∀j,j<es.length->(qY bag (es.getD j [])).Nodup:=λj K=>List.Pairwise.filter _ (hn j K);have⟨t,⟨ht,a5⟩,I⟩:=qDs (P:=λj=>j<es.length/\vJ _ (qY bag (es.getD j []))=true) (f:=λj=>(qY bag (es.getD j [])).length) (N:=(es.map List.length).sum)
  (λj K=>by
   have h1:(qY bag (es.getD j [])).length<=(es.getD j []).length:=dH _ _;have h2:(es.getD j []).length<=(es.map List.length).sum:=by
    have:es.getD j []∈es:=by
     rw[gD,gE K.1];exact gM K.1
    have hm:(es.getD j []).length∈es.map List.length:=dF this;clear h1;generalize es.map List.length=L at hm;generalize (es.getD j []).length=y at hm;induction L with
    |nil=>cases hm
    |cons z L ih=>
     rcases cH.1 hm with rfl|h;simp;have:=ih h;simp;omega
   omega) ⟨hi,yq.2 (λx M=>M)⟩
 have⟨j,⟨K,O,a6⟩,V⟩:=qDt (P:=λj=>j<es.length/\vJ _ (qY _ (es.getD j _))=true/\(qY _ _).length<=(qY bag (es.getD j [])).length) ⟨ht,a5,eA⟩;refine⟨j,K,?_,O⟩;unfold uL;rw[bV,dE,aT];have h1:=I i ⟨hi,yq.2 (λx M=>M)⟩;refine⟨Oo,λk hk=>?_⟩;have a3:k<es.length:=by simpa using hk
 rw[Bool.not_eq_true'];refine Bool.eq_false_iff.2 λho=>?_;unfold Q5 at ho;rw[bV,bV,Bool.or_eq_true,dE,dE,dE]at ho;have⟨⟨a7,hs⟩,hl⟩:=ho;have hsk:=yq.2 (λx M=>yq.1 hs x (yq.1 O x M));have h2:=I k ⟨a3,hsk⟩;have h3:=je (a4 j K) (yq.1 hs);rcases hl with hl|hl;omega;have:=(V k) ⟨a3,hsk,Oo⟩;omega
theorem Q6(h:p<(zw bag es).length):(xB bag es).getD p []=qY bag (es.getD ((zw bag es).getD p 0) []):=by
 unfold xB;rw[gD,bK,gD (l:=zw bag es),gE h];rfl
theorem YX(h:p<(zw bag es).length):(zw bag es).getD p 0<es.length/\uL bag es ((zw bag es).getD p 0)=true:=by
 have:(zw bag es).getD p 0∈zw bag es:=by
  rw[gD,gE h];exact gM h
 have I:=cK.1 this;exact⟨by simpa using I.1,I.2⟩
theorem U9(K:j<es.length)(M:uL bag es j=true):∃p,p<(zw bag es).length/\(zw bag es).getD p 0=j:=by
 have:j∈zw bag es:=cK.2 ⟨by simpa using K,M⟩;have⟨p,I,e⟩:=gO this;exact⟨p,I,by rw[gD,gE I];exact e⟩
theorem vP bag es:(xB bag es).length=(zw bag es).length:=by simp[xB]
theorem qGT bag es:(zw bag es).length<=es.length:=by
 unfold zw;exact bM (dH _ _) Ss
theorem y9(K:r<bag.length)(M:e<es.length):inc (qX bag es) r e=if bag.getD r 0∈es.getD e [] then 1 else 0:=by
 unfold inc qX;have O:(bag.map λx=>plN (λi=>decide (x∈es.getD i [])) es.length).getD r []=plN (λi=>decide (bag.getD r 0∈es.getD i [])) es.length:=by
  rw[gD,bK,gD (l:=bag),gE K];rfl
 rw[O];unfold plN;by_cases I:bag.getD r 0∈es.getD e [];rw[fE I,fE (cK.2 ⟨by simpa using M,by simpa using I⟩)];rw[fF I,fF (λh=>I (by simpa using (cK.1 h).2))]
theorem vK(I:r<bag.length):bag.getD r 0∈bag:=by
 rw[gD,gE I];exact gM I
theorem qCF(hn:∀i,i<es.length->(es.getD i []).Nodup)(hx:zk bag.length es.length (inc (qX bag es)) x)
 (hy:zk bag.length (xB bag es).length (inc (qX bag (xB bag es))) y):Cov.sm es.length x=Cov.sm (xB bag es).length y:=by
 have M:∀e,∃p,e<es.length->0<(qY bag (es.getD e [])).length->p<(zw bag es).length/\vJ (qY bag (es.getD e [])) (qY bag (es.getD ((zw bag es).getD p 0) []))=true:=by
  intro e;by_cases h:e<es.length/\0<(qY bag (es.getD e [])).length;have⟨j,O,h2,h3⟩:=U8 hn h.1 h.2;have⟨p,h4,h5⟩:=U9 O h2;exact⟨p,λ_ _=>⟨h4,by rw[h5];exact h3⟩⟩;exact⟨0,λO h2=>absurd ⟨O,h2⟩ h⟩
 obtain⟨up,M⟩:∃up:NN,∀e,e<es.length->0<(qY bag (es.getD e [])).length->up e<(zw bag es).length/\vJ (qY bag (es.getD e [])) (qY bag (es.getD ((zw bag es).getD (up e) 0) []))=true:=
  ⟨λe=>Classical.choose (M e),λe=>Classical.choose_spec (M e)⟩
 have hl:=vP bag es;refine Cov.kept_sum (rep:=λp=>(zw bag es).getD p 0) (up:=up) (nz:=λe=>decide (0<(qY bag (es.getD e [])).length)) ?_ ?_ ?_ ?_ hx.1 hx.2 hy.1 hy.2
 .intro r I p V;rw[hl]at V;have hk:=YX V;rw[y9 I (by rw[hl];exact V),y9 I hk.1,Q6 V];have:=vK I;by_cases K:bag.getD r 0∈es.getD ((zw bag es).getD p 0) [];rw[fE K,fE (uu.2 ⟨K,this⟩)];rw[fF K,fF (λh=>K (uu.1 h).1)]
 intro p V;rw[hl]at V;exact(YX V).1;intro e he hz r I;rw[y9 I he,fF];intro K;have O:=uu.2 ⟨K,vK I⟩;have h2:=List.length_pos_of_mem O;have a3:=of_decide_eq_false hz;omega;intro e he hz
 have⟨O,h2⟩:=M e he (by simpa using hz);refine⟨by rw[hl];exact O,λr I=>?_⟩;rw[y9 I he,y9 I (YX O).1];by_cases K:bag.getD r 0∈es.getD e [];have:=(uu.1 (yq.1 h2 _ (uu.2 ⟨K,vK I⟩))).1;rw[fE K,fE this];exact Rat.le_refl;rw[fF K];split;decide;exact Rat.le_refl
theorem kT(hb:bag.length<=7)(O:∀r,r<bag.length->∃e,e<es.length/\bag.getD r 0∈es.getD e []):∃x,zk bag.length es.length (inc (qX bag es)) x/\Parts es.length x:=by
 have⟨bar,s,V,h2,h3⟩:=Cov.least_cover (m:=bag.length) (u:=es.length) (M:=inc (qX bag es)) (λr _ e _=>ZH _ r e) (λr I=>by
  have⟨e,K,hm⟩:=O r I;exact⟨e,K,by rw[y9 I K,fE hm]⟩)
 exact⟨_,⟨h2,h3⟩,Yg V hb (λj _ r _=>QK) _⟩
theorem qCG(O:∀i,i<es.length->(es.getD i []).Nodup)(V:∀r,r<bag.length->∃e,e<es.length/\bag.getD r 0∈es.getD e []):
 ∀r,r<bag.length->∃e,e<(xB bag es).length/\bag.getD r 0∈(xB bag es).getD e []:=by
 intro r I;have⟨e,he,hm⟩:=V r I;have K:=uu.2 ⟨hm,vK I⟩;have⟨j,h2,h3,h4⟩:=U8 O he (List.length_pos_of_mem K);have⟨p,M,h6⟩:=U9 h2 h3;exact⟨p,by rw[vP];exact M,by rw[Q6 M,h6];exact yq.1 h4 _ K⟩
def gW:Nat->List (Nat->Rat)
 |0=>[λ_=>0]
 |u+1=>(gW u).flatMap λf=>(List.range 5041).flatMap λd=>(List.range 10081).map λ(z:Nat)=>λj=>if j=u then mkRat (z-5040) d else f j
theorem gWm{x:Nat->Rat}:∀{u},(∀j,j<u->Sm 5040 (x j))->∃y∈gW u,∀j,j<u->y j=x j
 |0,_=>⟨_,.head _,λj h=>by omega⟩
 |u+1,h=>by
  have⟨y,hy,e⟩:=gWm (u:=u) λj k=>h j (by omega)
  have⟨h1,h2⟩:=h u (by omega)
  refine⟨_,List.mem_flatMap.2 ⟨y,hy,List.mem_flatMap.2 ⟨(x u).den,List.mem_range.2 (by omega),List.mem_map.2 ⟨((x u).num+5040).toNat,List.mem_range.2 (by omega),rfl⟩⟩⟩,λj k=>?_⟩
  show(if j=u then mkRat _ _ else y j)=_
  split
  ·subst j;rw[show ((((x u).num+5040).toNat:Nat):Int)-5040=(x u).num by omega,Rat.mkRat_self]
  ·exact e j (by omega)
def wdR(es:LL)(bag:LI):Rat:=(((gW es.length).filter λy=>decide ((∀i,i<es.length->0<=y i)/\∀r,r<bag.length->1<=Cov.sm es.length λi=>inc (qX bag es) r i*y i)).map (Cov.sm es.length)).min?.getD 0
theorem qA1(h:zk bag.length es.length (inc (qX bag es)) x)(p:Parts es.length x):Cov.sm es.length x=wdR es bag:=by
 have⟨y,hy,e⟩:=gWm λj k=>p.sm k
 refine(congrArg (Option.getD · 0) (List.min?_eq_some_iff.2 ⟨List.mem_map.2 ⟨y,List.mem_filter.2 ⟨hy,decide_eq_true ⟨λi k=>e i k▸h.1.1 i k,λr k=>?_⟩⟩,Cov.sm_congr e⟩,λb k=>?_⟩)).symm
 ·obtain⟨z,hz,rfl⟩:=List.mem_map.1 k;have k:=of_decide_eq_true (List.mem_filter.1 hz).2;have:=h.2 z ⟨k.1,k.2⟩;unfold Cov.key Cov.Lex at this;grind
 ·rw[Cov.sm_congr λi k=>congrArg (inc _ r i*·) (e i k)];exact h.1.2 r k
def qw(f:NR):NR
 |0=>0
 |n+1=>if qw f n<f n then f n else qw f n
theorem YU(hB:1<=B):∀{n:Nat},(∀i,i<n->Sm B (f i))->Sm B (qw f n)
 |0,_=>⟨by show(0:Rat).num.natAbs<=B;simp,by show(0:Rat).den<=B;simpa using hB⟩
 |n+1,h=>by
  show Sm B (if qw f n<f n then f n else qw f n);split;exact h n Oo;exact YU hB (λi hi=>h i Oo)
theorem qH2{p}w(I:Sm 1000000 p)(hq:Sm 1000000 q)(h:q<p):
 aG 150 #[.agg #[ai p.num,ai p.den],.agg #[ai q.num,ai q.den]] w (ai 1):=
 (qBE w (kY I) (kY hq)).mono (by
  rintro e w' ⟨rfl,hb⟩;have K:=(Rat.lt_iff _ _).1 h;rw[RatM.sgn_gt _ Oo];exact⟨rfl,hb⟩)
theorem qH3{p}w(I:Sm 1000000 p)(hq:Sm 1000000 q)(h:¬q<p):
 Cl 150 #[.agg #[ai p.num,ai p.den],.agg #[ai q.num,ai q.den]] w λe w'=>∃s,e=.returned (ai s)/\¬(0<s)/\Bl w w':=
 (qBE w (kY I) (kY hq)).mono (by
  rintro e w' ⟨rfl,hb⟩;have M:¬_:=λK=>h ((Rat.lt_iff _ _).2 K);refine⟨_,rfl,?_,hb⟩;unfold RatM.sgn;split <;> (try split) <;> omega)
theorem YV(h:IR w v (prs n f))(hn:n<=1000)(hf:∀i,i<n->Sm 1000000 (f i)):
 aG 110 #[v] w (.agg #[ai (qw f n).num,ai (qw f n).den]):=by
 obtain⟨a,cap,rfl,hc⟩:=h;rw[qi]at hc |-;have HC:Hh (n=0\/∃b o,a=some (az b o)/\∀j,j<n->aC w b (o+j*2) (ai (f j).num)/\aC w b (o+j*2+1) (ai (f j).den)):=by
  rcases hc with h0|⟨b,o,e,K⟩;exact .inl h0;refine .inr ⟨b,o,e,λj hj=>?_⟩;have:=K j hj;rw[vE hj]at this;exact this
 change Hh _ at hf;have HM:Hh (∀k,k<=n->Sm 1000000 (qw f k)):=λk hk=>YU Oo (λi hi=>hf i Oo);have b7:Hh (∀k,qw f k<f k->qw f (k+1)=f k):=λk hk=>by show(if _ then _ else _)=_;rw[fE hk]
 have b8:Hh (∀k,¬qw f k<f k->qw f (k+1)=qw f k):=λk hk=>by show(if _ then _ else _)=_;rw[fF hk]
 have H0:Hh (qw f 0=0):=rfl;clear hc;generalize qw f=MN at *;go_enter func110,ntmps110;go_wp2;have a5:Bl w ((aJ w #[ai 0,ai 0] 36).alloc (.cells #[ai 0,ai 1] 36)):=(aK).alloc Ss _;have t1:Two ((w.alloc (.cells #[ai 0,ai 0] 36)).alloc (.cells #[ai 0,ai 1] 36)) w.1.size 0 0:=
  ⟨by rw[dR _ _ _ Ss,eH rfl];rfl,by rw[dR _ _ _ Ss,eH rfl];rfl,by rw[World.frozen?_alloc_past _ _ _ Ss,eM rfl],by rw[World.frozen?_alloc_past _ _ _ Ss,eM rfl]⟩
 have t2:Two ((w.alloc (.cells #[ai 0,ai 0] 36)).alloc (.cells #[ai 0,ai 1] 36)) (w.1.size+1) 0 1:=
  ⟨by rw[eH Ss];rfl,by rw[eH Ss];rfl,eM Ss,eM Ss⟩
 change Hh _ at t1 t2 a5;go_loopw [9] (λt wr=>∃k:Nat,k<=n/\t=ai k/\w.1.size+1<wr.1.size/\Hh (Bl w wr/\Two wr w.1.size 0 0/\Two wr (w.1.size+1) (MN k).num (MN k).den)) (λt _=>n-(intOf t).toNat);exact⟨0,eC,rfl,Ss,ay ⟨a5,t1,by rw[H0.o];exact t2⟩⟩;clear t1 t2 a5;obtain⟨k,hk,rfl,hsz,hH⟩:=hrel;by_cases a7:k<n
 .have i1:=aV a7;rcases HC.o with h0|⟨b,o,rfl,K⟩;omega;have⟨V,M,O⟩:=hH.o;have⟨d1,d2⟩:=K k a7;have c1:=(V.cell (bL w _ d1)).trans d1;have c2:=(V.cell (bL w _ d2)).trans d2;have c3:=O.1;have c4:=O.2.1;have HH:=ay (And.intro V (And.intro M O));have a8:Hh (∀ob,Bl wr (wr.alloc ob)):=λob=>aK;have a9:=ay (hf k a7);have b1:=ay (HM k hk);clear K d1 d2 V M O hH;have z1:∀x y:Value,(wr.alloc (.cells #[x,y] 36)).cell? (az wr.1.size 0)=some x:=λx y=>by rw[eH rfl];rfl
  have z2:∀x y:Value,(aJ wr #[x,y] 36).cell? (az wr.1.size 1)=some y:=λx y=>by rw[eH rfl];rfl
  change Hh _ at z1 z2;by_cases a4:MN k<f k
  .have HE:=ay ((b7 k) a4);have HK:Hh (∀w,_):=λw=>qH2 w a9 b1 a4;clear a4;generalize hx:(f k).num=x,hy:((f k).den:Int)=y at *;have HX:=ay hx;have HY:=ay hy;clear hx hy;generalize (MN k).num=x0,((MN k).den:Int)=y0 at *;go_wp2_with fail;apply (HK.o _).mn;intro w2 a3;have I:=bt (a8 _) a3;have q1:=HH.2.1.below Oo I;have q2:=HH.2.2.below Oo I;have q3:=bt HH.1 I;have q4:=I.size;have f1:=qF a3 (z1 _ _);have f2:=qF a3 (z2 _ _);have e1:=q2.1;have e2:=q2.2.1;have e3:=q2.2.2.1;have e4:=q2.2.2.2;have HQ:=ay (And.intro q1 (And.intro q2 q3));clear a3 I q1 q2 q3 z1 z2;go_wp2;go_roundw;exact⟨k+1,Oo,Gg,by simp[World.setCell];omega,ay ⟨(HQ.2.2.setCell (by show w.1.size<=w.1.size+1;omega) _).setCell (by show w.1.size<=w.1.size+1;omega) _,HQ.1.other Oo _ _,by rw[HE.o,HX.o,HY.o];exact HQ.2.1.set _ _⟩⟩;exact Im
  have HE:=ay ((b8 k) a4);have HK:Hh (∀w,_):=λw=>qH3 w a9 b1 a4;clear a4;generalize (f k).num=x,((f k).den:Int)=y,hx:(MN k).num=x0,hy:((MN k).den:Int)=y0 at *;have HX:=ay hx;have HY:=ay hy;clear hx hy;go_wp2_with fail;apply (HK.o _).mono;rintro e w2 ⟨s,rfl,hs,a3⟩;have I:=bt (a8 _) a3;have q4:=I.size;have HQ:=ay (And.intro (HH.2.1.below Oo I) (And.intro (HH.2.2.below Oo I) (bt HH.1 I)));clear a3 I z1 z2;go_wp2;go_roundw;exact⟨k+1,Oo,Gg,Oo,ay ⟨HQ.2.2,HQ.1,by rw[HE.o,HX.o,HY.o];exact HQ.2.1⟩⟩;exact Im
 obtain rfl:k=n:=Oo;have i1:=aY k;have⟨V,M,O⟩:=hH.o;have c1:=M.1;have c2:=M.2.1;have c3:=M.2.2.1;have c4:=M.2.2.2;have e1:=O.1;have e2:=O.2.1;have⟨x,hx⟩:=Ex ((MN k).num);have⟨y,hy⟩:=Ex ((MN k).den:Int);rw[<-hx]at e1;rw[<-hy]at e2;have HX:=ay hx;have HY:=ay hy;have HQ:=ay (And.intro V (M.set x y));clear hH M O hx hy V;go_wp2;have r1:=HQ.2.1;have r2:=HQ.2.2.1;refine aU (v:=.agg #[ai x,ai y]) (by simp[results,results110,go_sem,r1,r2]) rfl ⟨by rw[HX.o,HY.o],(HQ.1.setCell eA _).setCell eA _⟩
def rp(q:Rat):Int×Int:=(q.num,(q.den:Int))
def xr(es bs:LL)(ws:LP)(i:Nat):Bool:=decide (ws.getD i (0,0)=rp (wdR es (bs.getD i [])))
def Zv(es bs:LL)(ws:LP)(x:Int×Int):Bool:=
 decide (ws.length=bs.length)&&(List.range bs.length).all (xr es bs ws)&&decide (x=rp (qw (λi=>wdR es (bs.getD i [])) bs.length))
structure GoodBag(es:LL)(bag:LI):Prop where
 set:qb bag=true
 cov:yk bag es=true
theorem qA2(h:qb l=true):l.Nodup:=by
 have key:∀j,j<l.length->∀i,i<j->l.getD i 0<l.getD j 0:=by
  intro j;induction j with
  |zero=>intro _ i hi;omega
  |succ j ih=>
   intro I i hi;have M:=(ud h I).2.2;rw[show j+1-1=j by omega]at M;by_cases e:i=j;subst e;omega;have:=ih Oo i Oo;omega
 unfold List.Nodup;rw[List.pairwise_iff_getElem];intro i j hi I K;have:=key j I i K;rw[gD,gD,gE I,gE hi]at this;simp only[dI]at this;omega
theorem qCB(h:zf es=true):∀i,i<es.length->(es.getD i []).Nodup:=by
 intro i hi;unfold zf at h;rw[bV,aT]at h;refine qA2 (h.2 _ ?_);rw[gD,gE hi];exact gM hi
theorem U7(h:yk bag es=true):∀r,r<bag.length->∃e,e<es.length/\bag.getD r 0∈es.getD e []:=by
 intro r K;unfold yk at h;rw[aT]at h;have:=h _ (vK K);rw[List.any_eq_true]at this;have⟨e,M,O⟩:=this;have⟨j,I,V⟩:=gO M;exact⟨j,I,by rw[gD (l:=es),gE I,dI,V];simpa using O⟩
theorem GoodBag.best(h:GoodBag es bag):∃x,zk bag.length es.length (inc (qX bag es)) x/\Parts es.length x:=
 kT (O1 (kI h.set)) (U7 h.cov)
theorem GoodBag.sm(h:GoodBag es bag)(I:zf es=true):Sm 36000 (wdR es bag):=by
 have⟨x,K,M⟩:=h.best;rw[<-qA1 K M];exact M.sum eA (jm I)
theorem qJh(h:Sm 36000 q):Sm 1000000 q:=⟨O1 h.1,O1 h.2⟩
theorem qDq w(hb:IS w vb bag)(h:ISS w I es)(hl:qS es)(he:zf es=true)(K:GoodBag es bag):
 Cl 109 #[vb,I] w λe w'=>∃M O,e=.returned (.agg #[.bool true,ai (wdR es bag).num,ai (wdR es bag).den,M,O])/\Bl w w':=by
 have:=kI K.set;apply (qBy w I hb h Oo hl K.set he K.cov).mono;rintro e w' ⟨x,y,M,O,rfl,hx,-,px,-,-,-,-,V⟩;rw[qA1 hx px];exact⟨M,O,rfl,V⟩
theorem qJO(h:IR w v ws)(K:ws.length=n)(M:∀i,i<n->ws.getD i (0,0)=rp (f i)):IR w v (prs n f):=by
 have e:ws=prs n f:=by
  apply List.ext_getElem;rw[qi,K];intro i O V;have:=M i Oo;rw[gD,gE O,dI]at this;rw[this];have I:=vE (x:=f) (show i<n by omega);rw[gD,gE V,dI]at I;rw[I];rfl
 rw[<-e];exact h
theorem Tryz.fieldC1 b c d e f w:Sem.run Tryz.prog (Instr.field 167 (.agg #[b,c,d,e,f]) 1) w=.ok (.agg #[c,d]) w:=Kl
theorem qJP{sl b x y}(c3:wr.cell? (az B 3)=some sl)(I:wr.cell? (az b o)=some (ai x))(K:wr.cell? (az b (o+1))=some (ai y))(hb:Bl wr W):
 W.cell? (az B 3)=some sl/\W.cell? (az b o)=some (ai x)/\W.cell? (az b (o+1))=some (ai y)/\Bl wr W:=
 ⟨qF hb c3,qF hb I,qF hb K,hb⟩
theorem VM vp vh n d(hb:ISS w vb bs)(hl:qS bs)(c8:bs.length<=12)(c9:IR w vw ws)
 (he:ISS w ve es) (hle:qS es) (d0:zf es=true) (hg:∀i,i<bs.length->GoodBag es (bs.getD i [])):
 aG 80 #[.agg #[vb,vp,vh,vw,ai n,ai d],ve] w (.bool (Zv es bs ws (n,d))):=by
 have V:Hh (Bl w (w.alloc (.cells #[vb,vp,vh,vw,ai n,ai d] 38))):=aK;have c0:(w.alloc (.cells #[vb,vp,vh,vw,ai n,ai d] 38)).cell? (az w.1.size 0)=some vb:=by rw[eH rfl];rfl
 have c3:(w.alloc (.cells #[vb,vp,vh,vw,ai n,ai d] 38)).cell? (az w.1.size 3)=some vw:=by rw[eH rfl];rfl
 have c4:(w.alloc (.cells #[vb,vp,vh,vw,ai n,ai d] 38)).cell? (az w.1.size 4)=some (ai n):=by rw[eH rfl];rfl
 have c5:(w.alloc (.cells #[vb,vp,vh,vw,ai n,ai d] 38)).cell? (az w.1.size 5)=some (ai d):=by rw[eH rfl];rfl
 have⟨W,hW⟩:=Ex (w.alloc (.cells #[vb,vp,vh,vw,ai n,ai d] 38));rw[<-hW]at V c0 c3 c4 c5;have HE:=ay (he.below V);have a9:=ay (c9.below V);have b9:=ay (hb.below V);obtain⟨ae,d7,rfl,-⟩:=he;clear hb c9;obtain⟨a,cap,rfl,hc⟩:=b9.o;obtain⟨a4,I,rfl,d2⟩:=a9.o;have⟨res,a6⟩:=Ex (Zv es bs ws (n,d));rw[<-a6];change Hh _ at a6 hc d2 hl hle hg;by_cases hq:ws.length=bs.length
 case neg=>
  have hf:res=false:=by rw[a6.o];unfold Zv;rw[fC hq];simp
  subst hf;have i1:((ws.length:Int) != (bs.length:Int))=true:=Sy;clear hc d2 b9 a9 a6;generalize ws.length=n1,bs.length=n2 at *;go_enter func80,ntmps80;go_upto_region 1 with fail;rw[<-hW];clear hW;go_wp2;go_ret;exact⟨rfl,V⟩
 have HF:Hh (∀j,j<bs.length->xr es bs ws j=false->res=false):=λj hj e=>by
  rw[a6.o];unfold Zv;rw[qe hj e];simp
 have HT:Hh ((∀j,j<bs.length->xr es bs ws j=true)->res=decide ((n,d)=rp (qw (λi=>wdR es (bs.getD i [])) bs.length))):=λh1=>by
  rw[a6.o];unfold Zv;rw[fD hq,qh h1];rfl
 have b7:Hh (∀wr,Bl W wr->(∀j,j<bs.length->xr es bs ws j=true)->Cl 110 #[.slice a4 ws.length I] wr λe w'=>e=.returned (.agg #[ai (qw (λi=>wdR es (bs.getD i [])) bs.length).num,ai (qw (λi=>wdR es (bs.getD i [])) bs.length).den])/\Bl wr w'):=λwr hb h1=>
  YV (qJO (a9.o.below hb) hq (λi hi=>aN (h1 i hi))) Oo (λi hi=>qJh ((hg i hi).sm d0))
 clear a6 a9 b9;rw[hq]at d2 b7 c3 hW |-;have⟨m,hm⟩:=Ex bs.length;have d1:((m:Int) != (m:Int))=false:=Ss;rw[<-hm]at HF HT hc d2 b7 hg c8 c0 c3 hW |-;clear hm hq;generalize qw (λi=>wdR es (bs.getD i [])) m=MX at *;have d6:Hh (∀j,xr es bs ws j=decide (ws.getD j (0,0)=rp (wdR es (bs.getD j [])))):=λ_=>rfl;go_enter func80,ntmps80;go_upto_region 1 with fail;rw[<-hW];clear hW;go_wp2;go_loopw [17] (λt wr=>∃j:Nat,j<=m/\t=ai j/\Bl W wr/\Hh (∀i,i<j->xr es bs ws i=true)) (λt _=>m-(intOf t).toNat);exact⟨0,eC,rfl,eB,ay (λi hi=>Oo)⟩;obtain⟨j,hj,rfl,M,a7⟩:=hrel;by_cases b8:j<m
 .have i1:=aV b8;rcases hc.o with h0|⟨b,o,rfl,a8⟩;omega;rcases d2.o with h0|⟨b2,o2,rfl,a5⟩;omega;have⟨u,e1,hu⟩:=a8 j b8;have k1:=qF M e1;have⟨w1,w2⟩:=a5 j b8;have k2:=qF M w1;have k3:=qF M w2;have x3:=qF M c3;have HS:Hh (∀W',Bl wr W'->_):=λW' hb=>qJP x3 k2 k3 hb;have KW:=ay λW' hb=>
   qDq W' (hu.below (bt M hb)) (HE.o.below (bt M hb)) hle d0 (hg j b8)
  have c7:=d6 j;obtain⟨a1,d8,rfl,-⟩:=hu;have fin:=HF j b8;have nxt:xr es bs ws j=true->Hh (∀i,i<j+1->xr es bs ws i=true):=λe i hi=>by
   by_cases e2:i=j;rw[e2];exact e;exact a7 i Oo
  clear a8 a5 a7 e1 w1 w2;generalize (bs.getD j []).length=lj,xr es bs ws j=y,wdR es (bs.getD j [])=q at *;unfold rp at c7;generalize hp:ws.getD j (0,0)=p at *;have⟨p1,p2⟩:=p;clear hp;simp only at k2 k3 HS;have HQ:=ay c7;clear c7;generalize q.num=qn,(q.den:Int)=qd at *;have O:Hh (∀W',(aC W' w.1.size 3 (sZ b2 o2 m I)/\aC W' b2 (o2+j*2) (ai p1)/\aC W' b2 (o2+j*2+1) (ai p2)/\Bl wr W')->Bl wr W'):=λW' h=>h.2.2.2;have KX:Hh (∀W',(aC W' w.1.size 3 (sZ b2 o2 m I)/\aC W' b2 (o2+j*2) (ai p1)/\aC W' b2 (o2+j*2+1) (ai p2)/\Bl wr W')->_):=λW' h=>KW _ h.2.2.2;clear KW;have hq:=HQ.o;clear HQ;by_cases e1:p1=qn
  .subst e1;by_cases e2:p2=qd
   .subst e2;have hf:=nxt (by rw[hq];simp);clear fin nxt hq;have a3:=Tryz.fieldC1;go_wp2_with fail;go_region_held3 (λW'=>aC W' w.1.size 3 (sZ b2 o2 m I)/\aC W' b2 (o2+j*2) (ai p1)/\aC W' b2 (o2+j*2+1) (ai p2)/\Bl wr W')
     (first|exact HS _ eB.drew|exact HS _ (bt eB.drew K)|refine HS.o _ (bt (O.o _ ?_) K);assumption)
     (first|go_at_call 109;refine(KX.o _ ?_).mono ?_;assumption;rintro e w' ⟨vW,vD,rfl,K⟩)
    clear a3;go_wp2;go_roundw
    case rel=>
     refine⟨j+1,Oo,Gg,bt M (O.o _ ?_),hf⟩;assumption
    case measure=>simp[intOf];omega
   obtain rfl:=fin (by rw[hq];simp[e2]);have x1:(p2 == qd)=false:=by simpa using e2
   clear nxt hq;have a3:=Tryz.fieldC1;go_wp2_with fail;go_region_held3 (λW'=>aC W' w.1.size 3 (sZ b2 o2 m I)/\aC W' b2 (o2+j*2) (ai p1)/\aC W' b2 (o2+j*2+1) (ai p2)/\Bl wr W')
    (first|exact HS _ eB.drew|exact HS _ (bt eB.drew K)|refine HS.o _ (bt (O.o _ ?_) K);assumption)
    (first|go_at_call 109;refine(KX.o _ ?_).mono ?_;assumption;rintro e w' ⟨vW,vD,rfl,K⟩)
   clear a3;go_wp2;go_ret;refine⟨rfl,bt V.o (bt M (O.o _ ?_))⟩;assumption
  obtain rfl:=fin (by rw[hq];simp[e1]);have x1:(p1 == qn)=false:=by simpa using e1
  clear nxt hq;have a3:=Tryz.fieldC1;go_wp2_with fail;go_region_held3 (λW'=>aC W' w.1.size 3 (sZ b2 o2 m I)/\aC W' b2 (o2+j*2) (ai p1)/\aC W' b2 (o2+j*2+1) (ai p2)/\Bl wr W')
   (first|exact HS _ eB.drew|exact HS _ (bt eB.drew K)|refine HS.o _ (bt (O.o _ ?_) K);assumption)
   (first|go_at_call 109;refine(KX.o _ ?_).mono ?_;assumption;rintro e w' ⟨vW,vD,rfl,K⟩)
  clear a3;go_wp2;go_ret;refine⟨rfl,bt V.o (bt M (O.o _ ?_))⟩;assumption
 obtain rfl:j=m:=Oo;have i1:=aY j;have hr:=HT a7;have HS:Hh (∀W',Bl wr W'->aC W' w.1.size 3 (.slice a4 j I)/\aC W' w.1.size 4 (ai n)/\aC W' w.1.size (4+1) (ai d)/\Bl wr W'):=λW' hb=>⟨qF hb (qF M c3),qF hb (qF M c4),qF hb (qF M c5),hb⟩;have O:Hh (∀W',(aC W' w.1.size 3 (.slice a4 j I)/\aC W' w.1.size 4 (ai n)/\aC W' w.1.size (4+1) (ai d)/\Bl wr W')->Bl wr W'):=λW' h=>h.2.2.2;have KX:Hh (∀W',(aC W' w.1.size 3 (.slice a4 j I)/\aC W' w.1.size 4 (ai n)/\aC W' w.1.size (4+1) (ai d)/\Bl wr W')->_):=λW' h=>b7 _ (bt M h.2.2.2) a7;clear b7 HT HF a7;unfold rp at hr;generalize MX.num=qn,(MX.den:Int)=qd at *;by_cases e1:n=qn
 .subst e1;by_cases e2:d=qd
  .subst e2;obtain rfl:res=true:=by rw[hr];simp
   clear hr;go_wp2_with fail;go_region_held3 (λW'=>aC W' w.1.size 3 (.slice a4 j I)/\aC W' w.1.size 4 (ai n)/\aC W' w.1.size (4+1) (ai d)/\Bl wr W')
    (first|exact HS _ eB.drew|exact HS _ (bt eB.drew K)|refine HS.o _ (bt (O.o _ ?_) K);assumption)
    (first|go_at_call 110;refine(KX.o _ ?_).mono ?_;assumption;rintro e w' ⟨rfl,K⟩)
   go_wp2;go_ret;refine⟨rfl,bt V.o (bt M (O.o _ ?_))⟩;assumption
  obtain rfl:res=false:=by rw[hr];simp[e2]
  have x1:(d == qd)=false:=by simpa using e2
  clear hr;go_wp2_with fail;go_region_held3 (λW'=>aC W' w.1.size 3 (.slice a4 j I)/\aC W' w.1.size 4 (ai n)/\aC W' w.1.size (4+1) (ai d)/\Bl wr W')
   (first|exact HS _ eB.drew|exact HS _ (bt eB.drew K)|refine HS.o _ (bt (O.o _ ?_) K);assumption)
   (first|go_at_call 110;refine(KX.o _ ?_).mono ?_;assumption;rintro e w' ⟨rfl,K⟩)
  go_wp2;go_ret;refine⟨rfl,bt V.o (bt M (O.o _ ?_))⟩;assumption
 obtain rfl:res=false:=by rw[hr];simp[e1]
 have x1:(n == qn)=false:=by simpa using e1
 clear hr;go_wp2_with fail;go_region_held3 (λW'=>aC W' w.1.size 3 (.slice a4 j I)/\aC W' w.1.size 4 (ai n)/\aC W' w.1.size (4+1) (ai d)/\Bl wr W')
  (first|exact HS _ eB.drew|exact HS _ (bt eB.drew K)|refine HS.o _ (bt (O.o _ ?_) K);assumption)
  (first|go_at_call 110;refine(KX.o _ ?_).mono ?_;assumption;rintro e w' ⟨rfl,K⟩)
 go_wp2;go_ret;refine⟨rfl,bt V.o (bt M (O.o _ ?_))⟩;assumption
def zX(k:Int)(es bs:LL)(ps hs:LI)(ws:LP)(x:Int×Int):Bool:=
 xN k es&&yf k bs&&xH ps bs.length&&uK k bs ps&&yp hs es bs&&Zv es bs ws x
theorem qGR(h:qb l=true):∀j,j<l.length->∀i,i<=j->l.getD i 0<=l.getD j 0:=by
 intro j;induction j with
 |zero=>intro _ i hi;rw[show i=0 by omega];exact Int.le_refl _
 |succ j ih=>
  intro I i hi;have K:=(ud h I).2.2;rw[show j+1-1=j by omega]at K;by_cases e:i=j+1;subst e;exact Int.le_refl _;have:=ih Oo i Oo;omega
theorem Qf(h:qb l=true)(I:zy k l=true){x}(K:x∈l):0<=x/\x<k:=by
 obtain⟨i,hi,rfl⟩:=yw K;refine⟨(ud h hi).1,?_⟩;unfold zy at I;rw[Bool.or_eq_true,dE,dE]at I;have:=qGR h (l.length-1) Oo i Oo;omega
theorem qCx(I:xN k es=true)(K:qb bag=true)(M:zy k bag=true):GoodBag es bag:=by
 refine⟨K,?_⟩;unfold yk;rw[aT];intro x O;have⟨V,h4⟩:=Qf K M O;unfold xN at I;rw[bV,aT]at I;have:=I.2 x.toNat Sy;unfold zr at this;rw[show((x.toNat:Nat):Int)=x by omega]at this;exact this
theorem xA(I:xN k es=true):0<=k/\k<=6/\zf es=true:=by
 unfold xN at I;rw[bV,bV,bV,bV,dE,dE]at I;exact⟨I.1.1.1.1,I.1.1.1.2,I.1.1.2⟩
theorem qE8(I:xN k es=true)(hb:yf k bs=true):bs.length<=12/\∀i,i<bs.length->GoodBag es (bs.getD i []):=by
 unfold yf at hb;rw[bV,dE,aT]at hb;refine⟨hb.1,λi hi=>?_⟩;have:=hb.2 (bs.getD i []) (by rw[gD,gE hi];exact gM hi);unfold xU at this;rw[bV,bV]at this;exact qCx I this.1.2 this.2
theorem Zw w ve k n d{ps hs}(he:ISS w ve es)(hle:qS es)(hb:ISS w vb bs)(hl:qS bs)
 (hp:IS w vp ps) (d2:ps.length<=1099511627776) (hh:IS w V hs) (a9:IR w vw ws):
 aG 60 #[ai k,ve,.agg #[vb,vp,V,vw,ai n,ai d]] w (.bool (zX k es bs ps hs ws (n,d))):=by
 have K:Hh (Bl w (w.alloc (.cells #[vb,vp,V,vw,ai n,ai d] 38))):=aK;have c0:(w.alloc (.cells #[vb,vp,V,vw,ai n,ai d] 38)).cell? (az w.1.size 0)=some vb:=by rw[eH rfl];rfl
 have c1:(w.alloc (.cells #[vb,vp,V,vw,ai n,ai d] 38)).cell? (az w.1.size 1)=some vp:=by rw[eH rfl];rfl
 have c2:(w.alloc (.cells #[vb,vp,V,vw,ai n,ai d] 38)).cell? (az w.1.size 2)=some V:=by rw[eH rfl];rfl
 have c3:(w.alloc (.cells #[vb,vp,V,vw,ai n,ai d] 38)).cell? (az w.1.size 3)=some vw:=by rw[eH rfl];rfl
 have c4:(w.alloc (.cells #[vb,vp,V,vw,ai n,ai d] 38)).cell? (az w.1.size 4)=some (ai n):=by rw[eH rfl];rfl
 have c5:(w.alloc (.cells #[vb,vp,V,vw,ai n,ai d] 38)).cell? (az w.1.size 5)=some (ai d):=by rw[eH rfl];rfl
 have⟨W,hW⟩:=Ex (w.alloc (.cells #[vb,vp,V,vw,ai n,ai d] 38));rw[<-hW]at K c0 c1 c2 c3 c4 c5;have HE:=ay (he.below K);have a4:=ay (hb.below K);have HP:=ay (hp.below K);have HH:=ay (hh.below K);have d3:=ay (a9.below K);change Hh _ at hl hle;obtain⟨ae,d8,rfl,-⟩:=he;obtain⟨ab,d9,rfl,-⟩:=hb;obtain⟨ap,b1,rfl,-⟩:=hp;obtain⟨ah,a5,rfl,-⟩:=hh;obtain⟨aw,b7,rfl,-⟩:=a9;have⟨res,a3⟩:=Ex (zX k es bs ps hs ws (n,d));rw[<-a3];have HR:Hh (res=_):=a3;clear a3;go_enter func60,ntmps60;go_upto_region 1 with fail;rw[<-hW];clear hW;go_wp2_with fail;apply (ay (VL W k HE hle)).o.mn;intro w1 b8;change Hh _ at b8;cases hpat:xN k es
 .obtain rfl:res=false:=by rw[HR.o];unfold zX;rw[hpat];simp
  go_wp2;go_ret;exact⟨rfl,bt K b8⟩
 have⟨e0,d4,d5⟩:=xA hpat;have x0:=qF b8 c0;have x1:=qF b8 c1;change Hh _ at hpat;go_wp2_with fail;apply (ay (Jm k (a4.o.below b8) hl)).o.mn;intro w2 d6;subst w2;cases hbag:yf k bs
 .obtain rfl:res=false:=by rw[HR.o];unfold zX;rw[hbag];simp
  go_wp2;go_ret;exact⟨rfl,bt K b8⟩
 have hg:=qE8 hpat hbag;have a7:=hg.1;have HG:=ay hg.2;change Hh _ at hbag;clear hg;go_wp2_with fail;apply (ay (YT bs.length (HP.o.below b8) d2)).o.mn;intro w2 d6;subst w2;cases hpar:xH ps bs.length
 .obtain rfl:res=false:=by rw[HR.o];unfold zX;rw[hpar];simp
  go_wp2;go_ret;exact⟨rfl,bt K b8⟩
 have K4:=ay (Jo (.slice ah hs.length a5) (.slice aw ws.length b7) k n d d4 (a4.o.below b8) hl a7 (HP.o.below b8) (qGP hpar));have x2:=qF b8 c2;have x3:=qF b8 c3;have x4:=qF b8 c4;have x5:=qF b8 c5;change Hh _ at hpar;go_wp2_with fail;apply K4.o.mn;intro w2 c9;have O:=ay (bt b8 c9);clear K4 c9 x0 x1 x2 x3 x4 x5;cases htog:uK k bs ps
 .obtain rfl:res=false:=by rw[HR.o];unfold zX;rw[htog];simp
  go_wp2;go_ret;exact⟨rfl,bt K O⟩
 have x0:=qF O c0;have x2:=qF O c2;change Hh _ at htog;go_wp2_with fail;apply (ay (UI (HH.o.below O) (HE.o.below O) hle (a4.o.below O) hl)).o.mn;intro w3 d1;have M:=ay (bt O d1);clear d1 x0 x2;cases hhom:yp hs es bs
 .obtain rfl:res=false:=by rw[HR.o];unfold zX;rw[hhom];simp
  go_wp2;go_ret;exact⟨rfl,bt K M⟩
 have hr:res=Zv es bs ws (n,d):=by rw[HR.o];unfold zX;rw[hpat.o,hbag.o,hpar.o,htog.o,hhom];rfl
 have K6:=ay (VM (.slice ap ps.length b1) (.slice ah hs.length a5) n d (a4.o.below M) hl a7 (d3.o.below M) (HE.o.below M) hle d5 HG);rw[<-hr]at K6;have x0:=qF M c0;have x1:=qF M c1;have x2:=qF M c2;have x3:=qF M c3;have x4:=qF M c4;have x5:=qF M c5;clear hhom hr HR;go_wp2_with fail;apply K6.o.mn;intro w4 d7;go_wp2;go_ret;exact⟨rfl,bt K (bt M d7)⟩
theorem Vl n most x(hn:n<=7)(hx:IR w vx (prs n x))(hy:IR w vy (prs n y))(px:Parts n x)(py:Parts n y):
 aG 142 #[vx,vy,.bool most] w (.bool (QJ n most x y)):=by
 have I:=px.sum (nR n) hn;have K:=py.sum (nR n) hn;have KX:=ay (λW hW=>ZU W _ n x hn (hx.below hW) px);have KY:=ay (λW hW=>ZU W _ n y hn (hy.below hW) py);have K1:=ay (λW=>kV W I K Dd);have K2:=ay (λW=>kV W K I Dd);have HR:Hh (QJ n most x y=if decide (Cov.sm n x<Cov.sm n y)=true then !most else if decide (Cov.sm n y<Cov.sm n x)=true then most else j9 x y n 0):=ay (by unfold QJ;simp only[dE]);generalize decide (Cov.sm n x<Cov.sm n y)=b1,decide (Cov.sm n y<Cov.sm n x)=b2,QJ n most x y=R,(Cov.sm n x).num=p1,(Cov.sm n x).den=p2,(Cov.sm n y).num=q1 at *;generalize (Cov.sm n y).den=q2 at *;clear I K;obtain⟨a,cap,rfl,b7⟩:=hx;obtain⟨a2,e9,rfl,b8⟩:=hy;rw[qi]at b7 b8;have d5:=ay b7;have d6:=ay b8;have d7:=ay px;have d8:=ay py;clear b7 b8 px py;simp only[qi]at *;go_enter func142,ntmps142;go_upto_region 2 with (go_at_call 98;apply (KX.o _ eB).mono;rintro e w1 ⟨rfl,b9⟩);have hT:=jK w1 p1 p2 36;have hB:Bl w (w1.alloc (.cells #[ai p1,ai p2] 36)):=b9.alloc b9.size _;have hg1:w1.1.size<(w1.alloc (.cells #[ai p1,ai p2] 36)).1.size:=Ss;generalize w1.alloc (.cells #[ai p1,ai p2] 36)=W1 at *;generalize w1.1.size=g1 at *;clear b9 KX;go_upto_region 3 with (go_at_call 98;apply (KY.o _ hB).mono;rintro e w2 ⟨rfl,V⟩);have hg2:=bN hg1 V.size;have d0:=jK w2 q1 q2 36;have d1:Two (w2.alloc (.cells #[ai q1,ai q2] 36)) g1 p1 p2:=((hT.below hg1 V)).below hg2 (aK);have d2:Bl w (w2.alloc (.cells #[ai q1,ai q2] 36)):=(bt hB V).alloc (bt hB V).size _;have hg3:w2.1.size<(w2.alloc (.cells #[ai q1,ai q2] 36)).1.size:=Ss;generalize w2.alloc (.cells #[ai q1,ai q2] 36)=W2,w2.1.size=g2 at *;clear hT V hB KY;have d3:=ay d1;have d4:=ay d0;change Hh _ at d2;obtain⟨s1,s2,-,-⟩:=d1;obtain⟨u1,u2,-,-⟩:=d0;cases b1
 case true=>
  go_wp2_with (go_at_call 72;apply (K1.o _).mono;rintro e w3 ⟨rfl,O⟩);go_ret;exact⟨qJ (by rw[HR.o];rfl),bt d2 O⟩
 case false=>
  go_upto_region 5 with (go_at_call 72;apply (K1.o _).mono;rintro e w3 ⟨rfl,O⟩);obtain⟨d9,e0,-,-⟩:=d3.o.below Oo O;obtain⟨e5,e6,-,-⟩:=d4.o.below hg3 O;have c7:=ay (bt d2 O);clear s1 s2 u1 u2 O d2 d3 d4 K1;cases b2
  case true=>
   go_wp2_with (go_at_call 72;apply (K2.o _).mono;rintro e w4 ⟨rfl,a5⟩);go_ret;exact⟨qJ (by rw[HR.o];rfl),bt c7 a5⟩
  case false=>
   go_upto_region 7 with (go_at_call 72;apply (K2.o _).mono;rintro e w4 ⟨rfl,a5⟩);have e7:=ay (bt c7 a5);have e8:Hh (R=j9 x y n 0):=(by rw[HR.o];rfl);clear c7 a5 HR K2 d9 e0 e5 e6;go_wp2;go_loopw [25] (λt wr=>∃k:Nat,k<=n/\t=ai k/\Hh (Bl w wr/\R=j9 x y (n-k) k)) (λt _=>n-(intOf t).toNat);exact⟨0,eC,rfl,ay ⟨e7,e8⟩⟩;obtain⟨k,hk,rfl,hH⟩:=hrel;by_cases a3:k<n
   .have i1:=aV a3;have a6:Hh (R=if x k<y k then true else if y k<x k then false else j9 x y (n-(k+1)) (k+1)):=(by
     rw[hH.o.2,show n-k=(n-(k+1))+1 by omega];rfl)
    have a7:=ay hH.1;have I:=d7.o.sm a3;have K:=d8.o.sm a3;rcases d5.o with h0|⟨b,o,rfl,a4⟩;omega;rcases d6.o with h0|⟨b',o',rfl,M⟩;omega;have⟨e1,e2⟩:=a4 k a3;obtain⟨e3,e4⟩:=M k a3;rw[vE a3]at e1 e2 e3 e4;have HC:Hh (∀W,Bl w W->aC W b (o+k*2) (ai (x k).num)/\aC W b (o+k*2+1) (ai (x k).den)/\aC W b' (o'+k*2) (ai (y k).num)/\aC W b' (o'+k*2+1) (ai (y k).den)):=λW hW=>⟨(hW.cell (bL w _ e1)).trans e1,(hW.cell (bL w _ e2)).trans e2,(hW.cell (bL w _ e3)).trans e3,(hW.cell (bL w _ e4)).trans e4⟩;have KA:=ay (λW=>kV W I K Dd);have KB:=ay (λW=>kV W K I Dd);rw[show(if x k<y k then true else if y k<x k then false else j9 x y (n-(k+1)) (k+1))=(if decide (x k<y k)=true then true else if decide (y k<x k)=true then false else j9 x y (n-(k+1)) (k+1))by simp only[dE]]at a6;generalize decide (x k<y k)=b3,decide (y k<x k)=b4,(x k).num=x1,(x k).den=x2,(y k).num=y1,(y k).den=y2 at *;obtain⟨c1,c2,c3,c4⟩:=HC _ a7;clear a4 M e1 e2 e3 e4 hH I K;cases b3
    case true=>
     go_wp2_with fail;go_region_law (first|go_simp;go_at_call 72;apply (KA.o _).mn;intro w5 hb';have a8:=qf hb')
     all_goals
      go_wp2
      go_ret
      exact⟨qJ (by rw[a6.o];rfl),bt a7 a8⟩
    case false=>
     go_wp2_with fail;go_region_law (first|go_simp;go_at_call 72;apply (KA.o _).mn;intro w5 hb';have a8:=qf hb')
     all_goals
      have c8:=ay (bt a7 a8)
      obtain⟨f1,f2,f3,f4⟩:=HC _ c8
      clear c1 c2 c3 c4 hb' a8 a7
      cases b4
      case true=>
       go_wp2_with fail
       go_region_law (first|go_simp;go_at_call 72;apply (KB.o _).mn;intro w6 hb';have a9:=qf hb')
       all_goals
        go_wp2
        go_ret
        exact⟨qJ (by rw[a6.o];rfl),bt c8 a9⟩
      case false=>
       go_wp2_with fail
       go_region_law (first|go_simp;go_at_call 72;apply (KB.o _).mn;intro w6 hb';have a9:=qf hb')
       all_goals
        have HF:Hh (Bl w w6/\R=j9 x y (n-(k+1)) (k+1)):=⟨bt c8 a9,by rw[a6.o];rfl⟩
        clear hb' a9
        go_wp2
        go_roundw;exact⟨k+1,Oo,Gg,HF⟩;exact Im
   obtain rfl:k=n:=Oo;have i1:=aY k;have HX:=hH;clear hH;go_wp2;go_ret;refine⟨qJ ?_,HX.o.1⟩;rw[HX.o.2,Nat.sub_self];rfl
