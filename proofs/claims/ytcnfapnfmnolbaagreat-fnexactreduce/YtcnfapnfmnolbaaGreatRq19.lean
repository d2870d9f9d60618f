import Derived.Test.YtcnfapnfmnolbaaGreatRq18
set_option maxHeartbeats 40000000
set_option maxRecDepth 1000000
namespace Go.Proofs.YtcnfapnfmnolbaaGreat
open Go.RowKit
attribute [local go_sem] Qf UD
theorem UE(w:World)(u:Nat)(vr:Value)(L:List (List Nat))(below:Bool)(hu:u<=7)(hL:L.length<=7)(hn:(if below then u+L.length+L.length else u+L.length)<=19)(hr:RowsAt w vr L)(hlen:∀i,i<L.length->(L.getD i []).length<=7)(e3:∀i,i<L.length->∀j∈L.getD i [],j<u):
 Cl 144 #[.agg #[ai u,vr,.bool below]] w λe w'=>∃V,e=.returned (.agg V)/\IsSx V L.length (if below then u+L.length+L.length else u+L.length) (xW u L below) (λi=>(if below then u+L.length+L.length else u+L.length)-L.length+i) (λ_=>false)/\Bl w w':=by
 obtain⟨n,b7⟩:=Ex (if below then u+L.length+L.length else u+L.length);obtain⟨a,cap,rfl,a9⟩:=hr;rw[<-b7]at hn ⊢;have e4:=qBl u L below n;have h0:=Xt u L below;generalize hm:L.length=m at *;have e5:Hh (∀wx,Cl 170 #[.agg #[ai u,.slice a m cap,.bool below]] wx λe w'=>e=.returned (ai (n:Nat))/\Bl wx w'):=by
  intro wx;have:=QK wx u a m cap below hu hL;rw[<-b7]at this;exact this
 have HR:=ay a9;have HI:=ay e3;have h1:=ay hlen;have HN:=ay b7;have HM:=ay hm;have HP:=ay e4;clear a9 e3 hlen b7 hm e4 h0;go_enter Tryz.func144,Tryz.ntmps144;go_upto_region 1 with fail;rw[qDj];have h3:ArrAt ((w.alloc (.cells #[ai u,.slice a m cap,.bool below] 160)).alloc (.cells zSx 192)) w.1.size 3 (f3 (ai u) (.slice a m cap) (.bool below)):=(zG w 3 (f3 (ai u) (.slice a m cap) (.bool below)) 160).alloc Oo _;have d3:((w.alloc (.cells #[ai u,.slice a m cap,.bool below] 160)).alloc (.cells zSx 192)).there (w.1.size+1) 0 350:=by
  have:=yK (w.alloc (.cells #[ai u,.slice a m cap,.bool below] 160)) 192;rwa[show(w.alloc (.cells #[ai u,.slice a m cap,.bool below] 160)).1.size=w.1.size+1 by simp]at this
 have d4:Bl w ((w.alloc (.cells #[ai u,.slice a m cap,.bool below] 160)).alloc (.cells zSx 192)):=(aK).alloc Ss _;have d5:w.1.size+1<((w.alloc (.cells #[ai u,.slice a m cap,.bool below] 160)).alloc (.cells zSx 192)).1.size:=Ss;generalize (w.alloc (.cells #[ai u,.slice a m cap,.bool below] 160)).alloc (.cells zSx 192)=W at *;go_cut [3] (λv wc=>∃g,v=.pointer (some (az g 0))/\w.1.size+1<g/\Bl w wc/\wc.there (w.1.size+1) 0 350/\ArrAt wc w.1.size 3 (f3 (ai u) (.slice a m cap) (.bool below))/\(∀o,o<350->wc.cell? (az g o)=some (if o=0 then ai m else if o=1 then ai n else if o<330 then ai 0 else .bool false))/\∀o,o<350->wc.frozen? (az g o)=false)
 case first=>
  have h2:=h3.three;obtain⟨p0,p1,p2⟩:=h2;have b0:w.1.size<W.1.size:=Oo;have q0:∀o',(W.alloc o').cell? (az w.1.size 0)=some (ai u):=λo'=>(World.cell?_alloc_past _ _ _ b0).trans p0;have q1:∀o',(W.alloc o').cell? (az w.1.size 1)=some (.slice a m cap):=λo'=>(World.cell?_alloc_past _ _ _ b0).trans p1;have q2:∀o',(W.alloc o').cell? (az w.1.size 2)=some (.bool below):=λo'=>(World.cell?_alloc_past _ _ _ b0).trans p2;go_region_law (first|(go_simp;go_at_call 170;refine(e5.o _).mono ?_;rintro e w' ⟨rfl,hb⟩;have c8:=Zq m n _ _ (kY w' 192);have h4:w.1.size<w'.1.size:=bN (by first|exact b0|(simp;omega)) hb.size;have r1:w'.cell? (az w.1.size 1)=some (.slice a m cap):=(hb.cell (p:=(az w.1.size 1)) (by first|exact b0|(simp;omega))).trans (by first|exact p1|exact q1 _);have r2:∀o',(w'.alloc o').cell? (az w.1.size 1)=some (.slice a m cap):=λo'=>(World.cell?_alloc_past _ _ _ h4).trans r1;try(have c9:=Zq m n w' W.1.size (qv (kY W 192) (qa hb)))))
  all_goals(go_wp2_with fail;go_meet)
  all_goals first
   |(have e6:=c9;clear e6 c9 c8;exact⟨_,rfl,qFA m n d4 d3 h3 d5 (qa hb)⟩)
   |(clear c8;exact⟨_,rfl,qE9 m n d4 d3 h3 d5 (qa hb)⟩)
 case rest=>
  obtain⟨g,rfl,hg,e7,e8,e9,f7,f8⟩:=hcut;have d6:=Z0.start (m:=m) (n:=n) hL hn f7 f8;have c0:=d6.rows;have f9:=ay (And.intro e7 (And.intro e8 (And.intro e9 d6)));clear f7 f8 h3 d3 d4 d5 e7 e8 e9 d6;go_wp2;go_loopw [19] (λt wr=>∃i:Nat,i<=m+1/\t=ai i/\Hh (Bl w wr/\wr.there (w.1.size+1) 0 350/\ArrAt wr w.1.size 3 (f3 (ai u) (.slice a m cap) (.bool below))/\Z0 wr g m n i 0)) (λt _=>m+1-(intOf t).toNat);exact⟨0,Oo,rfl,f9⟩;clear f9 c0;obtain⟨i,hi,rfl,O⟩:=hrel;obtain⟨a4,a5,a7,a6⟩:=O.o;by_cases i9:i<m+1
  ·have i1:(i:Int)<(m:Int)+1:=Oo;have c1:=a6.cols;have HX:=ay O.o;clear O a4 a5 a7 a6;go_wp2;go_loopw [25] (λt wr=>∃j:Nat,j<=n+1/\t=ai j/\Hh (Bl w wr/\wr.there (w.1.size+1) 0 350/\ArrAt wr w.1.size 3 (f3 (ai u) (.slice a m cap) (.bool below))/\Z0 wr g m n i j)) (λt _=>n+1-(intOf t).toNat);exact⟨0,Oo,rfl,HX⟩;clear HX c1;obtain⟨j,hj,rfl,O⟩:=hrel;obtain⟨a4,a5,a7,a6⟩:=O.o;by_cases h5:j<n+1
   ·have j1:(j:Int)<(n:Int)+1:=Oo;have j2:(j:Int)<20:=Oo;have j3:(i:Int)<8:=Oo;have HX:=ay O.o;have h6:g<wr.1.size:=bL wr _ a6.rows;clear O a4 a5 a7 a6;go_wp2_with fail;go_region_law (first|(go_simp;go_at_call 171;refine(yB 0 _).mono ?_;rintro e w2 ⟨rfl,M⟩;have hb:=qa M;have a8:=HX.o.2.2.2.below hb;obtain⟨z0,d0,-⟩:=a8.one (2+i*40+j*2) Oo;obtain⟨z1,d1,-⟩:=a8.one (2+i*40+j*2+1) Oo;have f0:=a8.free (2+i*40+j*2) Oo;have f1:=a8.free (2+i*40+j*2+1) Oo))
    all_goals
     have HF:Hh (Bl w ((w2.setCell (az g (2+i*40+j*2)) (ai 0)).setCell (az g (2+i*40+j*2+1)) (ai 1))/\((w2.setCell (az g (2+i*40+j*2)) (ai 0)).setCell (az g (2+i*40+j*2+1)) (ai 1)).there (w.1.size+1) 0 350/\ArrAt ((w2.setCell (az g (2+i*40+j*2)) (ai 0)).setCell (az g (2+i*40+j*2+1)) (ai 1)) w.1.size 3 (f3 (ai u) (.slice a m cap) (.bool below))/\Z0 ((w2.setCell (az g (2+i*40+j*2)) (ai 0)).setCell (az g (2+i*40+j*2+1)) (ai 1)) g m n i (j+1)):=
      ay ⟨((bt HX.o.1 hb).setCell (by show w.1.size<=g;omega) _).setCell (by show w.1.size<=g;omega) _,xV (xV (qv HX.o.2.1 hb) _ _ _) _ _ _,((HX.o.2.2.1.below Oo hb).move (bD _ _ _ _ (by show w.1.size≠g;omega))).move (bD _ _ _ _ (by show w.1.size≠g;omega)),a8.step Oo Oo hL hn⟩
     clear hb M a8
     go_wp2
     go_roundw;exact⟨j+1,Oo,Gg,HF⟩;exact Im
   obtain rfl:j=n+1:=Oo;have j1:¬((n:Int)+1<(n:Int)+1):=Oo;have HX:Hh (Bl w wr/\wr.there (w.1.size+1) 0 350/\ArrAt wr w.1.size 3 (f3 (ai u) (.slice a m cap) (.bool below))/\Z0 wr g m n (i+1) 0):=ay ⟨a4,a5,a7,a6.next⟩;clear O a4 a5 a7 a6;go_wp2;go_roundw;exact⟨i+1,Oo,Gg,HX⟩;exact Im
  obtain rfl:i=m+1:=Oo;have i1:¬((m:Int)+1<(m:Int)+1):=Oo;have p1:wr.cell? (az w.1.size 1)=some (.slice a m cap):=a7.three.2.1;have HX:Hh (STt w wr g (f3 (ai u) (.slice a m cap) (.bool below)) m n (xi u L below 0 0) (λq=>if q<0 then n-m+q else 0)):=ay ⟨a4,a5,a7,(a6.done hL hn).congr (λi j _ _=>Xt u L below i j) (λi _=>if_neg Oo) (λ_ _=>rfl),hg⟩;clear O a4 a5 a7 a6;go_wp2;go_loopw [39] (λt wr=>∃i:Nat,i<=m/\t=ai i/\Hh (STt w wr g (f3 (ai u) (.slice a m cap) (.bool below)) m n (xi u L below i 0) (λq=>if q<i then n-m+q else 0))) (λt _=>m-(intOf t).toNat);exact⟨0,Oo,rfl,HX⟩;clear HX p1;obtain⟨i,hi,rfl,O⟩:=hrel;by_cases K:i<m
  ·have i2:(i:Int)<(m:Int):=Oo;obtain⟨b,o,x,rfl,hx,a2,g5,rfl,g6⟩:=HR.o i K;have h7:b<w.1.size:=bL w _ hx;have cx:wr.cell? (az b (o+i))=some (.slice a2 (L.getD i []).length g5):=(O.o.bel.cell (p:=(az b (o+i))) h7).trans hx;have d7:=ay g6;clear g6 hx;obtain⟨l,hl⟩:=Ex (L.getD i []);rw[<-hl]at cx d7;have HL:=ay hl;clear hl;obtain⟨ln,b8⟩:=Ex l.length;rw[<-b8]at cx d7;have b9:=ay b8;have j0:ln<=7:=by rw[b8,HL.o];exact h1.o i K
   clear b8;have HX:=O;clear O;go_wp2;go_loopw [46] (λt wr=>∃q:Nat,q<=ln/\t=ai q/\Hh (STt w wr g (f3 (ai u) (.slice (some (az b o)) m cap) (.bool below)) m n (xi u L below i q) (λq=>if q<i then n-m+q else 0))) (λt _=>ln-(intOf t).toNat);exact⟨0,Oo,rfl,HX⟩;clear HX cx;obtain⟨q,hq,rfl,O⟩:=hrel;by_cases d8:q<ln
   ·have q1:(q:Int)<(ln:Int):=Oo;obtain⟨b2,o2,rfl,hy⟩:=d7.o q d8;have cy:wr.cell? (az b2 (o2+q))=some (ai (l.getD q 0:Nat)):=(O.o.bel.cell (p:=(az b2 (o2+q))) (bL w _ hy)).trans hy;have h8:l.getD q 0<u:=by
     refine HI.o i K _ ?_;rw[<-HL.o,gD,gE (by rw[<-b9.o];exact d8)];exact gM _
    have h5:u<=n:=by rw[HN.o];split <;> omega
    obtain⟨y,d9⟩:=Ex (l.getD q 0);rw[<-d9]at cy h8;have HY:=ay d9;have j2:(y:Int)<20:=Oo;have j3:(i:Int)<8:=Oo;have HX:=O;clear O d9 hy;go_wp2_with fail;go_region_law (first|(go_simp;go_at_call 171;refine(yB (1) _).mono ?_;rintro e w2 ⟨rfl,M⟩;have hb:=qa M;have I:=HX.o.below hb;obtain⟨d0,d1,f0,f1⟩:=I.cells (i:=i) (j:=y) Oo Oo))
    all_goals
     have HF:=ay ((I.put (i:=i) (j:=y) Oo Oo 1).congr (C':=xi u L below i (q+1)) (λa b _ _=>by rw[qAO u L below i q (by rw[<-HL.o,<-b9.o];exact d8),<-HL.o,<-HY.o]) (λ_ _=>rfl))
     clear hb M I d0 d1 f0 f1
     go_wp2
     go_roundw;exact⟨q+1,Oo,Gg,HF⟩;exact Im
   obtain rfl:q=ln:=Oo;have q1:¬((q:Int)<(q:Int)):=Oo;obtain⟨e0,e1,e2⟩:=O.o.arg.three;have HX:=O;have j4:u+m<=n:=by rw[HN.o];split <;> omega
   have i3:(i:Int)<8:=Oo;have h6:g<wr.1.size:=bL wr _ O.o.sx.lay.rows;clear O;obtain⟨z,hz⟩:=Ex (n-m+i:Nat);have h9:(n:Int)-(m:Int)+(i:Int)=(z:Int):=Oo;have j5:z<n:=Oo;have i7:(z:Int)<20:=Oo;have HZ:=ay hz;have b1:Hh ((n:Int)-(m:Int)+(i:Int)=(z:Int)):=ay Oo;clear hz h9;have c1:wr.cell? (az g 1)=some (ai n):=HX.o.sx.lay.cols;have c0:wr.cell? (az g 0)=some (ai m):=HX.o.sx.lay.rows;have cb:=HX.o.sx.lay.bas i K;have fb:=HX.o.sx.free (322+i) Oo;cases below
   case false=>
    go_upto_region 22 with fail;have U:=ay (HX.o.bas K z);rw[b1.o];clear HX c0 c1 cb fb;have HX:=U;clear U;generalize wr.setCell (az g (322+i)) (ai (z:Nat))=w3 at *;have c1:w3.cell? (az g 1)=some (ai n):=HX.o.sx.lay.cols;have cb:w3.cell? (az g (322+i))=some (ai (z:Nat)):=(HX.o.sx.lay.bas i K).trans Ss;go_region_law (first|(go_simp;go_at_call 171;refine(yB (1) _).mono ?_;rintro e w2 ⟨rfl,M⟩;have hb:=qa M;have I:=HX.o.below hb;obtain⟨d0,d1,f0,f1⟩:=I.cells (i:=i) (j:=z) Oo Oo;have g1:w2.cell? (az g 1)=some (ai n):=I.sx.lay.cols;have g2:w2.cell? (az g (322+i))=some (ai (z:Nat)):=(I.sx.lay.bas i K).trans Ss))
    all_goals
     have U:=ay (I.put (i:=i) (j:=z) Oo Oo 1)
     go_upto_region 23 with fail
     clear HX c1 cb hb M I d0 d1 f0 f1 g1 g2
     have HX:=U
     clear U
     change Code.wp _ _ _ _ ((w2.setCell (az g (2+i*40+z*2)) (ai (1:Rat).num)).setCell (az g (2+i*40+z*2+1)) (ai (1:Rat).den))
     generalize (w2.setCell (az g (2+i*40+z*2)) (ai (1:Rat).num)).setCell (az g (2+i*40+z*2+1)) (ai (1:Rat).den)=w5 at *
     have c1:w5.cell? (az g 1)=some (ai n):=HX.o.sx.lay.cols
     have n20:(n:Int)<20:=Oo
     go_region_law (first|(go_simp;go_at_call 171;refine(yB (1) _).mono ?_;rintro e w2 ⟨rfl,M⟩;have hb:=qa M;have I:=HX.o.below hb;obtain⟨d0,d1,f0,f1⟩:=I.cells (i:=i) (j:=n) Oo Oo;have g1:w2.cell? (az g 1)=some (ai n):=I.sx.lay.cols))
     all_goals
      have HF:=ay ((I.put (i:=i) (j:=n) Oo Oo 1).congr (C':=xi u L false (i+1) 0) (B':=λa=>if a<i+1 then n-m+a else 0) (λa b _ _=>by rw[HP.o i HN.o K (HI.o i K),<-HL.o,<-b9.o,<-HZ.o];first|rfl|simp) (λa _=>Xr HZ.o a))
      clear hb M I d0 d1 f0 f1 g1
      go_wp2
      go_roundw;exact⟨i+1,Oo,Gg,HF⟩;exact Im
   case true=>
    obtain⟨y,hy⟩:=Ex (u+i:Nat);have j6:y<=n:=Oo;have i8:(y:Int)<20:=Oo;have k0:IntKind.i64.wrap ((u:Int)+(i:Int))=(y:Int):=by rw[show(u:Int)+(i:Int)=(y:Int)by omega];exact wrap_small y Oo
    have HY:=ay hy;clear hy;go_upto_region 20 with fail;go_region_law (first|(go_simp;go_at_call 171;refine(yB (-1) _).mono ?_;rintro e w2 ⟨rfl,M⟩;have hb:=qa M;have I:=HX.o.below hb;obtain⟨d0,d1,f0,f1⟩:=I.cells (i:=i) (j:=y) Oo Oo;have g0:w2.cell? (az g 0)=some (ai m):=I.sx.lay.rows;have g1:w2.cell? (az g 1)=some (ai n):=I.sx.lay.cols;have g2:=I.sx.lay.bas i K;have g3:=I.sx.free (322+i) Oo;have g4:=I.arg.three.1))
    all_goals
     have g7:Hh (STt w ((w2.setCell (az g (2+i*40+y*2)) (ai (-1))).setCell (az g (2+i*40+y*2+1)) (ai 1)) g (f3 (ai u) (.slice (some (az b o)) m cap) (.bool true)) m n (λa' b'=>if a'=i/\b'=y then (-1) else xi u L true i q a' b') (λq=>if q<i then n-m+q else 0)):=ay (I.put (i:=i) (j:=y) Oo Oo (-1))
     clear HX c0 c1 cb fb hb M I d0 d1 f0 f1 g0 g1 g2 g3 g4 e0 e1 e2
     have HX:=g7
     clear g7
     generalize (w2.setCell (az g (2+i*40+y*2)) (ai (-1))).setCell (az g (2+i*40+y*2+1)) (ai 1)=w4 at *
     have c1:w4.cell? (az g 1)=some (ai n):=HX.o.sx.lay.cols
     have c0:w4.cell? (az g 0)=some (ai m):=HX.o.sx.lay.rows
     have cb:=HX.o.sx.lay.bas i K
     have fb:=HX.o.sx.free (322+i) Oo
     go_upto_region 22 with fail
     have U:=ay (HX.o.bas K z)
     rw[b1.o]
     clear HX c0 c1 cb fb
     have HX:=U
     clear U
     generalize w4.setCell (az g (322+i)) (ai (z:Nat))=w3 at *
     have c1:w3.cell? (az g 1)=some (ai n):=HX.o.sx.lay.cols
     have cb:w3.cell? (az g (322+i))=some (ai (z:Nat)):=(HX.o.sx.lay.bas i K).trans Ss
     go_region_law (first|(go_simp;go_at_call 171;refine(yB (1) _).mono ?_;rintro e w2 ⟨rfl,M⟩;have hb:=qa M;have I:=HX.o.below hb;obtain⟨d0,d1,f0,f1⟩:=I.cells (i:=i) (j:=z) Oo Oo;have g1:w2.cell? (az g 1)=some (ai n):=I.sx.lay.cols;have g2:w2.cell? (az g (322+i))=some (ai (z:Nat)):=(I.sx.lay.bas i K).trans Ss))
     all_goals
      have U:=ay (I.put (i:=i) (j:=z) Oo Oo 1)
      go_upto_region 23 with fail
      clear HX c1 cb hb M I d0 d1 f0 f1 g1 g2
      have HX:=U
      clear U
      change Code.wp _ _ _ _ ((w2.setCell (az g (2+i*40+z*2)) (ai (1:Rat).num)).setCell (az g (2+i*40+z*2+1)) (ai (1:Rat).den))
      generalize (w2.setCell (az g (2+i*40+z*2)) (ai (1:Rat).num)).setCell (az g (2+i*40+z*2+1)) (ai (1:Rat).den)=w5 at *
      have c1:w5.cell? (az g 1)=some (ai n):=HX.o.sx.lay.cols
      have n20:(n:Int)<20:=Oo
      go_region_law (first|(go_simp;go_at_call 171;refine(yB (1) _).mono ?_;rintro e w2 ⟨rfl,M⟩;have hb:=qa M;have I:=HX.o.below hb;obtain⟨d0,d1,f0,f1⟩:=I.cells (i:=i) (j:=n) Oo Oo;have g1:w2.cell? (az g 1)=some (ai n):=I.sx.lay.cols))
      all_goals
       have HF:=ay ((I.put (i:=i) (j:=n) Oo Oo 1).congr (C':=xi u L true (i+1) 0) (B':=λa=>if a<i+1 then n-m+a else 0) (λa b _ _=>by rw[HP.o i HN.o K (HI.o i K),<-HL.o,<-b9.o,<-HZ.o,<-HY.o];first|rfl|simp) (λa _=>Xr HZ.o a))
       clear hb M I d0 d1 f0 f1 g1
       go_wp2
       go_roundw;exact⟨i+1,Oo,Gg,HF⟩;exact Im
  obtain rfl:i=m:=Oo;have i2:¬((i:Int)<(i:Int)):=Oo;have g8:SxAt wr g i n (xW u L below) (λq=>n-i+q) (λ_=>false):=O.o.sx.congr (λa b ha _=>by
   unfold xi;by_cases e:a<i;rw[if_pos e];obtain rfl:a=i:=Oo;rw[if_neg e];unfold xW;rw[if_neg (show ¬a<L.length by rw[HM.o];exact e),if_neg Ss]) (λa ha=>(if_pos ha).symm) (λ_ _=>rfl)
  have a4:=O.o.bel;have a5:=O.o.oth;obtain⟨cz,c7⟩:=Ex (cellsOf wr g);have a3:cz.length=350:=by rw[c7];exact xm _ _
  have i0:Hh (wr.rangeAt g 0 cz):=by rw[c7];exact ud g8
  have d2:IsSx cz.toArray i n (xW u L below) (λq=>n-i+q) (λ_=>false):=by rw[c7];exact Yo g8
  have i4:=ay d2.one;have g9:Hh (wr.there (w.1.size+1) 0 cz.toArray.size):=by
   rw[show cz.toArray.size=350 by simpa using a3];exact a5
  have b1:Hh ((Tryz.prog.info? 192).map (·.size)=some cz.length):=by
   show _=_;rw[a3];exact uS
  have i5:Hh ((Tryz.prog.info? 192).map (·.size)=some cz.toArray.size):=by
   show _=_;rw[show cz.toArray.size=350 by simpa using a3];exact uS
  clear c7;have k1:=ay a3;clear a3;go_wp2_with (first|(refine wpList_load_mid rfl 192 _ rfl g 0 Fl cz _ (by exact i0.o) Tryz.underlying192 Fl (by exact b1.o) ?_)|(refine wpList_store_mid rfl 192 _ _ rfl (w.1.size+1) 0 cz.toArray Fl Fl (by exact g9.o) (by exact i5.o) (by exact i4.o) ?_));have i6:(wr.setCells (w.1.size+1) 0 cz.toArray.toList).rangeAt (w.1.size+1) 0 cz:=by
   have:=World.rangeAt_setCells_same wr (w.1.size+1) 0 cz.toArray.toList (by have:=g9.o;simpa using this);simpa using this
  refine bodyPost_ret (v:=.agg cz.toArray) (jJ Tryz.results144 _ _ (w.1.size+1) cz _ Fl i6 Tryz.underlying192 Fl b1.o) rfl ⟨_,rfl,d2,xG Oo _ _ _ a4⟩
end Go.Proofs.YtcnfapnfmnolbaaGreat
