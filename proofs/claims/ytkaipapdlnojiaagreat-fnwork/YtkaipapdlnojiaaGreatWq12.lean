import Derived.Test.YtkaipapdlnojiaaGreatWq11
set_option maxHeartbeats 40000000
set_option maxRecDepth 1000000
namespace Go.Proofs.YtkaipapdlnojiaaGreat
open Go.RowKit
attribute [local go_sem] kx VF
theorem VG(w:World)(u:Nat)(vr:Value)(L:List (List Nat))(below:Bool)(hu:u<=7)(hL:L.length<=7)(hn:(if below then u+L.length+L.length else u+L.length)<=19)(hr:RowsAt w vr L)(hlen:∀i,i < L.length->(L.getD i []).length<=7)(e9:∀i,i < L.length->∀j∈L.getD i [],j < u):
 Cl 53 #[.agg #[.int .i64 u,vr,.bool below]] w λe w'=>∃V,e=.returned (.agg V)/\IsSx V L.length (if below then u+L.length+L.length else u+L.length) (xG u L below) (λi=>(if below then u+L.length+L.length else u+L.length) - L.length+i) (λ_=>false)/\Bl w w':=by
 obtain⟨n,b9⟩:∃n,n=if below then u+L.length+L.length else u+L.length:=⟨_,rfl⟩
 obtain⟨a,cap,rfl,a9⟩:=hr;rw[<-b9]at hn ⊢;have f4:=qAe u L below n;have h6:=Zu u L below;generalize hm:L.length=m at *
 have f7:Hid (∀wx,Cl 90 #[.agg #[.int .i64 u,.slice a m cap,.bool below]] wx λe w'=>e=.returned (.int .i64 (n:Nat))/\Bl wx w'):=by
  intro wx;have:=kZ wx u a m cap below hu hL;rw[<-b9]at this;exact this
 have HR:=hid a9;have HI:=hid e9;have h7:=hid hlen;have HN:=hid b9;have HM:=hid hm;have HP:=hid f4;clear a9 e9 hlen b9 hm f4 h6;go_enter Tryz.func53,Tryz.ntmps53
 go_upto_region 1 with fail
 rw[qCt];have h3:ArrAt ((w.alloc (.cells #[.int .i64 u,.slice a m cap,.bool below] 68)).alloc (.cells zSx 103)) w.heap.size 3 (f3 (.int .i64 u) (.slice a m cap) (.bool below)):=(qz w 3 (f3 (.int .i64 u) (.slice a m cap) (.bool below)) 68).alloc Oo _
 have d9:((w.alloc (.cells #[.int .i64 u,.slice a m cap,.bool below] 68)).alloc (.cells zSx 103)).there (w.heap.size+1) 0 350:=by
  have:=xo (w.alloc (.cells #[.int .i64 u,.slice a m cap,.bool below] 68)) 103;rwa[show(w.alloc (.cells #[.int .i64 u,.slice a m cap,.bool below] 68)).heap.size=w.heap.size+1 by simp]at this
 have e3:Bl w ((w.alloc (.cells #[.int .i64 u,.slice a m cap,.bool below] 68)).alloc (.cells zSx 103)):=((bM _ _).alloc (bK _) _).alloc Ss _;have e4:w.heap.size+1 < ((w.alloc (.cells #[.int .i64 u,.slice a m cap,.bool below] 68)).alloc (.cells zSx 103)).heap.size:=Ss;generalize (w.alloc (.cells #[.int .i64 u,.slice a m cap,.bool below] 68)).alloc (.cells zSx 103)=W at *;go_cut [3] (λv wc=>∃g,v=.pointer (some ⟨g,0,none⟩)/\w.heap.size+1 < g/\Bl w wc/\wc.there (w.heap.size+1) 0 350/\ArrAt wc w.heap.size 3 (f3 (.int .i64 u) (.slice a m cap) (.bool below))/\(∀o,o < 350->wc.cell? ⟨g,o,none⟩=some (if o=0 then .int .i64 m else if o=1 then .int .i64 n else if o < 330 then .int .i64 0 else .bool false))/\∀o,o < 350->wc.frozen? ⟨g,o,none⟩=false)
 case first=>
  have h8:=h3.three;obtain⟨p0,p1,p2⟩:=h8;have b0:w.heap.size < W.heap.size:=Oo;have q0:∀o',(W.alloc o').cell? ⟨w.heap.size,0,none⟩=some (.int .i64 u):=λo'=>(World.cell?_alloc_past _ _ _ b0).trans p0;have q1:∀o',(W.alloc o').cell? ⟨w.heap.size,1,none⟩=some (.slice a m cap):=λo'=>(World.cell?_alloc_past _ _ _ b0).trans p1;have q2:∀o',(W.alloc o').cell? ⟨w.heap.size,2,none⟩=some (.bool below):=λo'=>(World.cell?_alloc_past _ _ _ b0).trans p2;go_region_law (first|(go_simp;go_at_call 90;refine(f7.out _).mono ?_;rintro e w' ⟨rfl,hb⟩;have d6:=Qy m n _ _ (j9 w' 103);have h9:w.heap.size < w'.heap.size:=bV (by first|exact b0|(simp;omega)) hb.size;have r1:w'.cell? ⟨w.heap.size,1,none⟩=some (.slice a m cap):=(hb.cell (p:=⟨w.heap.size,1,none⟩) (by first|exact b0|(simp;omega))).trans (by first|exact p1|exact q1 _);have r2:∀o',(w'.alloc o').cell? ⟨w.heap.size,1,none⟩=some (.slice a m cap):=λo'=>(World.cell?_alloc_past _ _ _ h9).trans r1;try(have d7:=Qy m n w' W.heap.size (qm (j9 W 103) (qQ hb)))))
  all_goals(go_wp2_with fail;go_meet)
  all_goals first
   |(have f8:=d7;clear f8 d7 d6;exact⟨_,rfl,qEK m n e3 d9 h3 e4 (qQ hb)⟩)
   |(clear d6;exact⟨_,rfl,qEJ m n e3 d9 h3 e4 (qQ hb)⟩)
 case rest=>
  obtain⟨g,rfl,hg,f9,g5,g6,g7,g8⟩:=hcut;have e5:=Z0.start (m:=m) (n:=n) hL hn g7 g8;have c0:=e5.rows;have g9:=hid (And.intro f9 (And.intro g5 (And.intro g6 e5)));clear g7 g8 h3 d9 e3 e4 f9 g5 g6 e5;go_wp2;go_loopw [19] (λt wr=>∃i:Nat,i<=m+1/\t=.int .i64 i/\Hid (Bl w wr/\wr.there (w.heap.size+1) 0 350/\ArrAt wr w.heap.size 3 (f3 (.int .i64 u) (.slice a m cap) (.bool below))/\Z0 wr g m n i 0)) (λt _=>m+1 - (intOf t).toNat)
  case atStart=>exact⟨0,Oo,rfl,g9⟩
  case round=>
   clear g9 c0;obtain⟨i,hi,rfl,O⟩:=hrel;obtain⟨a4,a5,a7,a6⟩:=O.out;by_cases k1:i < m+1
   ·have i1:(i:Int) < (m:Int)+1:=Oo;have c1:=a6.cols;have HX:=hid O.out;clear O a4 a5 a7 a6;go_wp2;go_loopw [25] (λt wr=>∃j:Nat,j<=n+1/\t=.int .i64 j/\Hid (Bl w wr/\wr.there (w.heap.size+1) 0 350/\ArrAt wr w.heap.size 3 (f3 (.int .i64 u) (.slice a m cap) (.bool below))/\Z0 wr g m n i j)) (λt _=>n+1 - (intOf t).toNat)
    case atStart=>exact⟨0,Oo,rfl,HX⟩
    case round=>
     clear HX c1;obtain⟨j,hj,rfl,O⟩:=hrel;obtain⟨a4,a5,a7,a6⟩:=O.out;by_cases i0:j < n+1
     ·have j1:(j:Int) < (n:Int)+1:=Oo;have j2:(j:Int) < 20:=Oo;have j3:(i:Int) < 8:=Oo;have HX:=hid O.out;have i4:g < wr.heap.size:=bL wr _ a6.rows;clear O a4 a5 a7 a6;go_wp2_with fail
      go_region_law (first|(go_simp;go_at_call 91;refine(xg 0 _).mono ?_;rintro e w2 ⟨rfl,M⟩;have hb:=qQ M;have a8:=HX.out.2.2.2.below hb;obtain⟨z0,d0,-⟩:=a8.one (2+i*40+j*2) Oo;obtain⟨z1,d1,-⟩:=a8.one (2+i*40+j*2+1) Oo;have f0:=a8.free (2+i*40+j*2) Oo;have f1:=a8.free (2+i*40+j*2+1) Oo))
      all_goals
       have HF:Hid (Bl w ((w2.setCell ⟨g,2+i*40+j*2,none⟩ (.int .i64 0)).setCell ⟨g,2+i*40+j*2+1,none⟩ (.int .i64 1))/\((w2.setCell ⟨g,2+i*40+j*2,none⟩ (.int .i64 0)).setCell ⟨g,2+i*40+j*2+1,none⟩ (.int .i64 1)).there (w.heap.size+1) 0 350/\ArrAt ((w2.setCell ⟨g,2+i*40+j*2,none⟩ (.int .i64 0)).setCell ⟨g,2+i*40+j*2+1,none⟩ (.int .i64 1)) w.heap.size 3 (f3 (.int .i64 u) (.slice a m cap) (.bool below))/\Z0 ((w2.setCell ⟨g,2+i*40+j*2,none⟩ (.int .i64 0)).setCell ⟨g,2+i*40+j*2+1,none⟩ (.int .i64 1)) g m n i (j+1)):=
        hid ⟨((bt HX.out.1 hb).setCell (by show w.heap.size<=g;omega) _).setCell (by show w.heap.size<=g;omega) _,xF (xF (qm HX.out.2.1 hb) _ _ _) _ _ _,((HX.out.2.2.1.below Oo hb).move (bE _ _ _ _ (by show w.heap.size≠g;omega))).move (bE _ _ _ _ (by show w.heap.size≠g;omega)),a8.step Oo Oo hL hn⟩
       clear hb M a8
       go_wp2
       go_roundw
       case rel=>exact⟨j+1,Oo,Gg,HF⟩
       case measure=>simp[intOf];omega
     ·obtain rfl:j=n+1:=Oo;have j1:¬((n:Int)+1 < (n:Int)+1):=Oo;have HX:Hid (Bl w wr/\wr.there (w.heap.size+1) 0 350/\ArrAt wr w.heap.size 3 (f3 (.int .i64 u) (.slice a m cap) (.bool below))/\Z0 wr g m n (i+1) 0):=hid ⟨a4,a5,a7,a6.next⟩;clear O a4 a5 a7 a6;go_wp2;go_roundw
      case rel=>exact⟨i+1,Oo,Gg,HX⟩
      case measure=>simp[intOf];omega
   ·obtain rfl:i=m+1:=Oo;have i1:¬((m:Int)+1 < (m:Int)+1):=Oo;have p1:wr.cell? ⟨w.heap.size,1,none⟩=some (.slice a m cap):=a7.three.2.1;have HX:Hid (STt w wr g (f3 (.int .i64 u) (.slice a m cap) (.bool below)) m n (xN u L below 0 0) (λq=>if q < 0 then n - m+q else 0)):=hid ⟨a4,a5,a7,(a6.done hL hn).congr (λi j _ _=>Zu u L below i j) (λi _=>if_neg Oo) (λ_ _=>rfl),hg⟩;clear O a4 a5 a7 a6;go_wp2;go_loopw [39] (λt wr=>∃i:Nat,i<=m/\t=.int .i64 i/\Hid (STt w wr g (f3 (.int .i64 u) (.slice a m cap) (.bool below)) m n (xN u L below i 0) (λq=>if q < i then n - m+q else 0))) (λt _=>m - (intOf t).toNat)
    case atStart=>exact⟨0,Oo,rfl,HX⟩
    case round=>
     clear HX p1;obtain⟨i,hi,rfl,O⟩:=hrel;by_cases K:i < m
     ·have i2:(i:Int) < (m:Int):=Oo;obtain⟨b,o,x,rfl,hx,a2,h0,rfl,h1⟩:=HR.out i K;have i5:b < w.heap.size:=bL w _ hx;have cx:wr.cell? ⟨b,o+i,none⟩=some (.slice a2 (L.getD i []).length h0):=(O.out.bel.cell (p:=⟨b,o+i,none⟩) i5).trans hx;have e6:=hid h1;clear h1 hx;obtain⟨l,hl⟩:∃l,l=L.getD i []:=⟨_,rfl⟩;rw[<-hl]at cx e6;have HL:=hid hl;clear hl;obtain⟨ln,c7⟩:∃ln,ln=l.length:=⟨_,rfl⟩;rw[<-c7]at cx e6;have c8:=hid c7;have k4:ln<=7:=by rw[c7,HL.out];exact h7.out i K
      clear c7;have HX:=O;clear O;go_wp2;go_loopw [46] (λt wr=>∃q:Nat,q<=ln/\t=.int .i64 q/\Hid (STt w wr g (f3 (.int .i64 u) (.slice (some ⟨b,o,none⟩) m cap) (.bool below)) m n (xN u L below i q) (λq=>if q < i then n - m+q else 0))) (λt _=>ln - (intOf t).toNat)
      case atStart=>exact⟨0,Oo,rfl,HX⟩
      case round=>
       clear HX cx;obtain⟨q,hq,rfl,O⟩:=hrel;by_cases e7:q < ln
       ·have q1:(q:Int) < (ln:Int):=Oo;obtain⟨b2,o2,rfl,hy⟩:=e6.out q e7;have cy:wr.cell? ⟨b2,o2+q,none⟩=some (.int .i64 (l.getD q 0:Nat)):=(O.out.bel.cell (p:=⟨b2,o2+q,none⟩) (bL w _ hy)).trans hy
        have i6:l.getD q 0 < u:=by
         refine HI.out i K _ ?_;rw[<-HL.out,gD,bC (by rw[<-c8.out];exact e7)];exact gM _
        have i0:u<=n:=by rw[HN.out];split <;> omega
        obtain⟨y,e8⟩:∃y,y=l.getD q 0:=⟨_,rfl⟩;rw[<-e8]at cy i6;have HY:=hid e8;have j2:(y:Int) < 20:=Oo;have j3:(i:Int) < 8:=Oo;have HX:=O;clear O e8 hy;go_wp2_with fail
        go_region_law (first|(go_simp;go_at_call 91;refine(xg (1) _).mono ?_;rintro e w2 ⟨rfl,M⟩;have hb:=qQ M;have I:=HX.out.below hb;obtain⟨d0,d1,f0,f1⟩:=I.cells (i:=i) (j:=y) Oo Oo))
        all_goals
         have HF:=hid ((I.put (i:=i) (j:=y) Oo Oo 1).congr (C':=xN u L below i (q+1)) (λa b _ _=>by rw[Jt u L below i q (by rw[<-HL.out,<-c8.out];exact e7),<-HL.out,<-HY.out]) (λ_ _=>rfl))
         clear hb M I d0 d1 f0 f1
         go_wp2
         go_roundw
         case rel=>exact⟨q+1,Oo,Gg,HF⟩
         case measure=>simp[intOf];omega
       ·obtain rfl:q=ln:=Oo;have q1:¬((q:Int) < (q:Int)):=Oo;obtain⟨e0,e1,e2⟩:=O.out.arg.three;have HX:=O;have k5:u+m<=n:=by rw[HN.out];split <;> omega
        have i3:(i:Int) < 8:=Oo;have i4:g < wr.heap.size:=bL wr _ O.out.sx.lay.rows;clear O;obtain⟨z,hz⟩:∃z:Nat,z=n - m+i:=⟨_,rfl⟩;have i7:(n:Int) - (m:Int)+(i:Int)=(z:Int):=Oo;have k7:z < n:=Oo;have j6:(z:Int) < 20:=Oo;have HZ:=hid hz;have b7:Hid ((n:Int) - (m:Int)+(i:Int)=(z:Int)):=hid Oo;clear hz i7;have c1:wr.cell? ⟨g,1,none⟩=some (.int .i64 n):=HX.out.sx.lay.cols;have c0:wr.cell? ⟨g,0,none⟩=some (.int .i64 m):=HX.out.sx.lay.rows;have cb:=HX.out.sx.lay.bas i K;have fb:=HX.out.sx.free (322+i) Oo;cases below
        case false=>
         go_upto_region 22 with fail
         have U:=hid (HX.out.bas K z);rw[b7.out];clear HX c0 c1 cb fb;have HX:=U;clear U;generalize wr.setCell ⟨g,322+i,none⟩ (.int .i64 (z:Nat))=w3 at *;have c1:w3.cell? ⟨g,1,none⟩=some (.int .i64 n):=HX.out.sx.lay.cols;have cb:w3.cell? ⟨g,322+i,none⟩=some (.int .i64 (z:Nat)):=(HX.out.sx.lay.bas i K).trans Ss;go_region_law (first|(go_simp;go_at_call 91;refine(xg (1) _).mono ?_;rintro e w2 ⟨rfl,M⟩;have hb:=qQ M;have I:=HX.out.below hb;obtain⟨d0,d1,f0,f1⟩:=I.cells (i:=i) (j:=z) Oo Oo;have g1:w2.cell? ⟨g,1,none⟩=some (.int .i64 n):=I.sx.lay.cols;have g2:w2.cell? ⟨g,322+i,none⟩=some (.int .i64 (z:Nat)):=(I.sx.lay.bas i K).trans Ss))
         all_goals
          have U:=hid (I.put (i:=i) (j:=z) Oo Oo 1)
          go_upto_region 23 with fail
          clear HX c1 cb hb M I d0 d1 f0 f1 g1 g2
          have HX:=U
          clear U
          change Code.wp _ _ _ _ ((w2.setCell ⟨g,2+i*40+z*2,none⟩ (.int .i64 (1:Rat).num)).setCell ⟨g,2+i*40+z*2+1,none⟩ (.int .i64 (1:Rat).den))
          generalize (w2.setCell ⟨g,2+i*40+z*2,none⟩ (.int .i64 (1:Rat).num)).setCell ⟨g,2+i*40+z*2+1,none⟩ (.int .i64 (1:Rat).den)=w5 at *
          have c1:w5.cell? ⟨g,1,none⟩=some (.int .i64 n):=HX.out.sx.lay.cols
          have i8:(n:Int) < 20:=Oo
          go_region_law (first|(go_simp;go_at_call 91;refine(xg (1) _).mono ?_;rintro e w2 ⟨rfl,M⟩;have hb:=qQ M;have I:=HX.out.below hb;obtain⟨d0,d1,f0,f1⟩:=I.cells (i:=i) (j:=n) Oo Oo;have g1:w2.cell? ⟨g,1,none⟩=some (.int .i64 n):=I.sx.lay.cols))
          all_goals
           have HF:=hid ((I.put (i:=i) (j:=n) Oo Oo 1).congr (C':=xN u L false (i+1) 0) (B':=λa=>if a < i+1 then n - m+a else 0) (λa b _ _=>by rw[HP.out i HN.out K (HI.out i K),<-HL.out,<-c8.out,<-HZ.out];first|rfl|simp) (λa _=>Zs HZ.out a))
           clear hb M I d0 d1 f0 f1 g1
           go_wp2
           go_roundw
           case rel=>exact⟨i+1,Oo,Gg,HF⟩
           case measure=>simp[intOf];omega
        case true=>
         obtain⟨y,hy⟩:∃y:Nat,y=u+i:=⟨_,rfl⟩;have k8:y<=n:=Oo;have k0:(y:Int) < 20:=Oo;have k9:IntKind.i64.wrap ((u:Int)+(i:Int))=(y:Int):=by rw[show(u:Int)+(i:Int)=(y:Int)by omega];exact wrap_small y Oo
         have HY:=hid hy;clear hy;go_upto_region 20 with fail
         go_region_law (first|(go_simp;go_at_call 91;refine(xg (-1) _).mono ?_;rintro e w2 ⟨rfl,M⟩;have hb:=qQ M;have I:=HX.out.below hb;obtain⟨d0,d1,f0,f1⟩:=I.cells (i:=i) (j:=y) Oo Oo;have g0:w2.cell? ⟨g,0,none⟩=some (.int .i64 m):=I.sx.lay.rows;have g1:w2.cell? ⟨g,1,none⟩=some (.int .i64 n):=I.sx.lay.cols;have g2:=I.sx.lay.bas i K;have g3:=I.sx.free (322+i) Oo;have g4:=I.arg.three.1))
         all_goals
          have h2:Hid (STt w ((w2.setCell ⟨g,2+i*40+y*2,none⟩ (.int .i64 (-1))).setCell ⟨g,2+i*40+y*2+1,none⟩ (.int .i64 1)) g (f3 (.int .i64 u) (.slice (some ⟨b,o,none⟩) m cap) (.bool true)) m n (λa' b'=>if a'=i/\b'=y then (-1) else xN u L true i q a' b') (λq=>if q < i then n - m+q else 0)):=hid (I.put (i:=i) (j:=y) Oo Oo (-1))
          clear HX c0 c1 cb fb hb M I d0 d1 f0 f1 g0 g1 g2 g3 g4 e0 e1 e2
          have HX:=h2
          clear h2
          generalize (w2.setCell ⟨g,2+i*40+y*2,none⟩ (.int .i64 (-1))).setCell ⟨g,2+i*40+y*2+1,none⟩ (.int .i64 1)=w4 at *
          have c1:w4.cell? ⟨g,1,none⟩=some (.int .i64 n):=HX.out.sx.lay.cols
          have c0:w4.cell? ⟨g,0,none⟩=some (.int .i64 m):=HX.out.sx.lay.rows
          have cb:=HX.out.sx.lay.bas i K
          have fb:=HX.out.sx.free (322+i) Oo
          go_upto_region 22 with fail
          have U:=hid (HX.out.bas K z)
          rw[b7.out]
          clear HX c0 c1 cb fb
          have HX:=U
          clear U
          generalize w4.setCell ⟨g,322+i,none⟩ (.int .i64 (z:Nat))=w3 at *
          have c1:w3.cell? ⟨g,1,none⟩=some (.int .i64 n):=HX.out.sx.lay.cols
          have cb:w3.cell? ⟨g,322+i,none⟩=some (.int .i64 (z:Nat)):=(HX.out.sx.lay.bas i K).trans Ss
          go_region_law (first|(go_simp;go_at_call 91;refine(xg (1) _).mono ?_;rintro e w2 ⟨rfl,M⟩;have hb:=qQ M;have I:=HX.out.below hb;obtain⟨d0,d1,f0,f1⟩:=I.cells (i:=i) (j:=z) Oo Oo;have g1:w2.cell? ⟨g,1,none⟩=some (.int .i64 n):=I.sx.lay.cols;have g2:w2.cell? ⟨g,322+i,none⟩=some (.int .i64 (z:Nat)):=(I.sx.lay.bas i K).trans Ss))
          all_goals
           have U:=hid (I.put (i:=i) (j:=z) Oo Oo 1)
           go_upto_region 23 with fail
           clear HX c1 cb hb M I d0 d1 f0 f1 g1 g2
           have HX:=U
           clear U
           change Code.wp _ _ _ _ ((w2.setCell ⟨g,2+i*40+z*2,none⟩ (.int .i64 (1:Rat).num)).setCell ⟨g,2+i*40+z*2+1,none⟩ (.int .i64 (1:Rat).den))
           generalize (w2.setCell ⟨g,2+i*40+z*2,none⟩ (.int .i64 (1:Rat).num)).setCell ⟨g,2+i*40+z*2+1,none⟩ (.int .i64 (1:Rat).den)=w5 at *
           have c1:w5.cell? ⟨g,1,none⟩=some (.int .i64 n):=HX.out.sx.lay.cols
           have i8:(n:Int) < 20:=Oo
           go_region_law (first|(go_simp;go_at_call 91;refine(xg (1) _).mono ?_;rintro e w2 ⟨rfl,M⟩;have hb:=qQ M;have I:=HX.out.below hb;obtain⟨d0,d1,f0,f1⟩:=I.cells (i:=i) (j:=n) Oo Oo;have g1:w2.cell? ⟨g,1,none⟩=some (.int .i64 n):=I.sx.lay.cols))
           all_goals
            have HF:=hid ((I.put (i:=i) (j:=n) Oo Oo 1).congr (C':=xN u L true (i+1) 0) (B':=λa=>if a < i+1 then n - m+a else 0) (λa b _ _=>by rw[HP.out i HN.out K (HI.out i K),<-HL.out,<-c8.out,<-HZ.out,<-HY.out];first|rfl|simp) (λa _=>Zs HZ.out a))
            clear hb M I d0 d1 f0 f1 g1
            go_wp2
            go_roundw
            case rel=>exact⟨i+1,Oo,Gg,HF⟩
            case measure=>simp[intOf];omega
     ·obtain rfl:i=m:=Oo;have i2:¬((i:Int) < (i:Int)):=Oo
      have h4:SxAt wr g i n (xG u L below) (λq=>n - i+q) (λ_=>false):=O.out.sx.congr (λa b ha _=>by
       unfold xN;by_cases e:a < i
       ·rw[if_pos e]
       ·obtain rfl:a=i:=Oo;rw[if_neg e];unfold xG;rw[if_neg (show ¬a < L.length by rw[HM.out];exact e),if_neg Ss]) (λa ha=>(if_pos ha).symm) (λ_ _=>rfl)
      have a4:=O.out.bel;have a5:=O.out.out;obtain⟨cz,c9⟩:∃cz,cz=cellsOf wr g:=⟨_,rfl⟩;have a3:cz.length=350:=by rw[c9];exact xT _ _
      have i9:Hid (wr.rangeAt g 0 cz):=by rw[c9];exact uA h4
      have d8:IsSx cz.toArray i n (xG u L below) (λq=>n - i+q) (λ_=>false):=by rw[c9];exact Xb h4
      have j0:=hid d8.one
      have h5:Hid (wr.there (w.heap.size+1) 0 cz.toArray.size):=by
       rw[show cz.toArray.size=350 by simpa using a3];exact a5
      have b7:Hid ((Tryz.prog.info? 103).map (·.size)=some cz.length):=by
       show _=_;rw[a3];exact vZ
      have j4:Hid ((Tryz.prog.info? 103).map (·.size)=some cz.toArray.size):=by
       show _=_;rw[show cz.toArray.size=350 by simpa using a3];exact vZ
      clear c9;have l0:=hid a3;clear a3;go_wp2_with (first|(refine wpList_load_mid rfl 103 _ rfl g 0 (by rfl) cz _ (by exact i9.out) Tryz.underlying103 (by rfl) (by exact b7.out) ?_)|(refine wpList_store_mid rfl 103 _ _ rfl (w.heap.size+1) 0 cz.toArray (by rfl) (by rfl) (by exact h5.out) (by exact j4.out) (by exact j0.out) ?_))
      have j5:(wr.setCells (w.heap.size+1) 0 cz.toArray.toList).rangeAt (w.heap.size+1) 0 cz:=by
       have:=World.rangeAt_setCells_same wr (w.heap.size+1) 0 cz.toArray.toList (by have:=h5.out;simpa using this);simpa using this
      refine bodyPost_ret (v:=.agg cz.toArray) (uV Tryz.results53 _ _ (w.heap.size+1) cz _ (by rfl) j5 Tryz.underlying103 (by rfl) b7.out) rfl ⟨_,rfl,d8,zt Oo _ _ _ a4⟩
end Go.Proofs.YtkaipapdlnojiaaGreat
