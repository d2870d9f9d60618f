import Derived.Test.YtjbpgdpciinlcaaGreatBg22
set_option maxHeartbeats 40000000
set_option maxRecDepth 1000000
namespace Go.Proofs.YtjbpgdpciinlcaaGreat
open Go.RowKit
attribute [local go_sem] kS
theorem YV(w:World)(u:Nat)(vr:Value)(L:List (List Nat))(below:Bool)(hu:u<=7)(hL:L.length<=7)(hn:(if below then u+L.length+L.length else u+L.length)<=19)(hr:RowsAt w vr L)(hlen:∀i,i < L.length->(L.getD i []).length<=7)(hin:∀i,i < L.length->∀j∈L.getD i [],j < u):
 Cl 116 #[.agg #[.int .i64 u,vr,.bool below]] w fun e w'=>∃V,e=.returned (.agg V)/\IsSx V L.length (if below then u+L.length+L.length else u+L.length) (xE u L below) (fun i=>(if below then u+L.length+L.length else u+L.length) - L.length+i) (fun _=>false)/\Bl w w':=by
 obtain⟨n,hnn⟩:∃n,n=if below then u+L.length+L.length else u+L.length:=⟨_,rfl⟩
 obtain⟨a,cap,rfl,hrows⟩:=hr;rw[<-hnn]at hn ⊢;have hpl:=Km u L below n;have hzl:=Zd u L below;generalize hm:L.length=m at *
 have hcol:Hid (∀wx,Cl 141 #[.agg #[.int .i64 u,.slice a m cap,.bool below]] wx fun e w'=>e=.returned (.int .i64 (n:Nat))/\Bl wx w'):=by
  intro wx;have:=jw wx u a m cap below hu hL;rw[<-hnn]at this;exact this
 have HR:=hid hrows;have HI:=hid hin;have HLE:=hid hlen;have HN:=hid hnn;have HM:=hid hm;have HP:=hid hpl;clear hrows hin hlen hnn hm hpl hzl;go_enter Tryz.func116,Tryz.ntmps116
 go_upto_region 1 with fail
 rw[qBn];have h3:ArrAt ((w.alloc (.cells #[.int .i64 u,.slice a m cap,.bool below] 121)).alloc (.cells zSx 155)) w.heap.size 3 (f3 (.int .i64 u) (.slice a m cap) (.bool below)):=(qt w 3 (f3 (.int .i64 u) (.slice a m cap) (.bool below)) 121).alloc (by omega) _
 have hT1:((w.alloc (.cells #[.int .i64 u,.slice a m cap,.bool below] 121)).alloc (.cells zSx 155)).there (w.heap.size+1) 0 350:=by
  have:=xn (w.alloc (.cells #[.int .i64 u,.slice a m cap,.bool below] 121)) 155;rwa[show(w.alloc (.cells #[.int .i64 u,.slice a m cap,.bool below] 121)).heap.size=w.heap.size+1 by simp]at this
 have hB1:Bl w ((w.alloc (.cells #[.int .i64 u,.slice a m cap,.bool below] 121)).alloc (.cells zSx 155)):=((bI _ _).alloc (nR _) _).alloc (by simp) _;have hz1:w.heap.size+1 < ((w.alloc (.cells #[.int .i64 u,.slice a m cap,.bool below] 121)).alloc (.cells zSx 155)).heap.size:=by simp
 generalize (w.alloc (.cells #[.int .i64 u,.slice a m cap,.bool below] 121)).alloc (.cells zSx 155)=W at *;go_cut [3] (fun v wc=>∃g,v=.pointer (some ⟨g,0,none⟩)/\w.heap.size+1 < g/\Bl w wc/\wc.there (w.heap.size+1) 0 350/\ArrAt wc w.heap.size 3 (f3 (.int .i64 u) (.slice a m cap) (.bool below))/\(∀o,o < 350->wc.cell? ⟨g,o,none⟩=some (if o=0 then .int .i64 m else if o=1 then .int .i64 n else if o < 330 then .int .i64 0 else .bool false))/\∀o,o < 350->wc.frozen? ⟨g,o,none⟩=false)
 case first=>
  have hC3:=h3.three;obtain⟨p0,p1,p2⟩:=hC3;have hs0:w.heap.size < W.heap.size:=by omega
  have q0:∀o',(W.alloc o').cell? ⟨w.heap.size,0,none⟩=some (.int .i64 u):=fun o'=>(World.cell?_alloc_past _ _ _ hs0).trans p0;have q1:∀o',(W.alloc o').cell? ⟨w.heap.size,1,none⟩=some (.slice a m cap):=fun o'=>(World.cell?_alloc_past _ _ _ hs0).trans p1;have q2:∀o',(W.alloc o').cell? ⟨w.heap.size,2,none⟩=some (.bool below):=fun o'=>(World.cell?_alloc_past _ _ _ hs0).trans p2;go_region_law (first|(go_simp;go_at_call 141;refine(hcol.out _).mono ?_;rintro e w' ⟨rfl,hb⟩;have hst1:=Qc m n _ _ (jT w' 155);have hsw:w.heap.size < w'.heap.size:=bM (by first|exact hs0|(simp;omega)) hb.size;have r1:w'.cell? ⟨w.heap.size,1,none⟩=some (.slice a m cap):=(hb.cell (p:=⟨w.heap.size,1,none⟩) (by first|exact hs0|(simp;omega))).trans (by first|exact p1|exact q1 _);have r2:∀o',(w'.alloc o').cell? ⟨w.heap.size,1,none⟩=some (.slice a m cap):=fun o'=>(World.cell?_alloc_past _ _ _ hsw).trans r1;try(have hst2:=Qc m n w' W.heap.size (qg (jT W 155) (qS hb)))))
  all_goals(go_wp2_with fail;go_meet)
  all_goals first
   |(have hst3:=hst2;clear hst3 hst2 hst1;exact⟨_,rfl,qC2 m n hB1 hT1 h3 hz1 (qS hb)⟩)
   |(clear hst1;exact⟨_,rfl,qC1 m n hB1 hT1 h3 hz1 (qS hb)⟩)
 case rest=>
  obtain⟨g,rfl,hg,hBc,hTc,hAc,hcl,hfz⟩:=hcut;have hZ0:=Z0.start (m:=m) (n:=n) hL hn hcl hfz;have c0:=hZ0.rows;have HX0:=hid (And.intro hBc (And.intro hTc (And.intro hAc hZ0)));clear hcl hfz h3 hT1 hB1 hz1 hBc hTc hAc hZ0;go_wp2;go_loopw [19] (fun t wr=>∃i:Nat,i<=m+1/\t=.int .i64 i/\Hid (Bl w wr/\wr.there (w.heap.size+1) 0 350/\ArrAt wr w.heap.size 3 (f3 (.int .i64 u) (.slice a m cap) (.bool below))/\Z0 wr g m n i 0)) (fun t _=>m+1 - (intOf t).toNat)
  case atStart=>exact⟨0,by omega,rfl,HX0⟩
  case round=>
   clear HX0 c0;obtain⟨i,hi,rfl,hH⟩:=hrel;obtain⟨hBr,hTr,hAr,hZr⟩:=hH.out;by_cases him:i < m+1
   ·have i1:(i:Int) < (m:Int)+1:=by omega
    have c1:=hZr.cols;have HX:=hid hH.out;clear hH hBr hTr hAr hZr;go_wp2;go_loopw [25] (fun t wr=>∃j:Nat,j<=n+1/\t=.int .i64 j/\Hid (Bl w wr/\wr.there (w.heap.size+1) 0 350/\ArrAt wr w.heap.size 3 (f3 (.int .i64 u) (.slice a m cap) (.bool below))/\Z0 wr g m n i j)) (fun t _=>n+1 - (intOf t).toNat)
    case atStart=>exact⟨0,by omega,rfl,HX⟩
    case round=>
     clear HX c1;obtain⟨j,hj,rfl,hH⟩:=hrel;obtain⟨hBr,hTr,hAr,hZr⟩:=hH.out;by_cases hjn:j < n+1
     ·have j1:(j:Int) < (n:Int)+1:=by omega
      have j2:(j:Int) < 20:=by omega
      have j3:(i:Int) < 8:=by omega
      have HX:=hid hH.out;have hgl:g < wr.heap.size:=bL wr _ hZr.rows;clear hH hBr hTr hAr hZr;go_wp2_with fail
      go_region_law (first|(go_simp;go_at_call 142;refine(xg 0 _).mono ?_;rintro e w2 ⟨rfl,hb'⟩;have hb:=qS hb';have hZ2:=HX.out.2.2.2.below hb;obtain⟨z0,d0,-⟩:=hZ2.one (2+i*40+j*2) (by omega);obtain⟨z1,d1,-⟩:=hZ2.one (2+i*40+j*2+1) (by omega);have f0:=hZ2.free (2+i*40+j*2) (by omega);have f1:=hZ2.free (2+i*40+j*2+1) (by omega)))
      all_goals
       have HF:Hid (Bl w ((w2.setCell ⟨g,2+i*40+j*2,none⟩ (.int .i64 0)).setCell ⟨g,2+i*40+j*2+1,none⟩ (.int .i64 1))/\((w2.setCell ⟨g,2+i*40+j*2,none⟩ (.int .i64 0)).setCell ⟨g,2+i*40+j*2+1,none⟩ (.int .i64 1)).there (w.heap.size+1) 0 350/\ArrAt ((w2.setCell ⟨g,2+i*40+j*2,none⟩ (.int .i64 0)).setCell ⟨g,2+i*40+j*2+1,none⟩ (.int .i64 1)) w.heap.size 3 (f3 (.int .i64 u) (.slice a m cap) (.bool below))/\Z0 ((w2.setCell ⟨g,2+i*40+j*2,none⟩ (.int .i64 0)).setCell ⟨g,2+i*40+j*2+1,none⟩ (.int .i64 1)) g m n i (j+1)):=
        hid ⟨((bt HX.out.1 hb).setCell (by show w.heap.size<=g;omega) _).setCell (by show w.heap.size<=g;omega) _,xD (xD (qg HX.out.2.1 hb) _ _ _) _ _ _,((HX.out.2.2.1.below (by omega) hb).move (bD _ _ _ _ (by show w.heap.size≠g;omega))).move (bD _ _ _ _ (by show w.heap.size≠g;omega)),hZ2.step (by omega) (by omega) hL hn⟩
       clear hb hb' hZ2
       go_wp2
       go_roundw
       case rel=>exact⟨j+1,by omega,by go_num,HF⟩
       case measure=>simp[intOf];omega
     ·obtain rfl:j=n+1:=by omega
      have j1:¬((n:Int)+1 < (n:Int)+1):=by omega
      have HX:Hid (Bl w wr/\wr.there (w.heap.size+1) 0 350/\ArrAt wr w.heap.size 3 (f3 (.int .i64 u) (.slice a m cap) (.bool below))/\Z0 wr g m n (i+1) 0):=hid ⟨hBr,hTr,hAr,hZr.next⟩;clear hH hBr hTr hAr hZr;go_wp2;go_roundw
      case rel=>exact⟨i+1,by omega,by go_num,HX⟩
      case measure=>simp[intOf];omega
   ·obtain rfl:i=m+1:=by omega
    have i1:¬((m:Int)+1 < (m:Int)+1):=by omega
    have p1:wr.cell? ⟨w.heap.size,1,none⟩=some (.slice a m cap):=hAr.three.2.1;have HX:Hid (STt w wr g (f3 (.int .i64 u) (.slice a m cap) (.bool below)) m n (xK u L below 0 0) (fun q=>if q < 0 then n - m+q else 0)):=hid ⟨hBr,hTr,hAr,(hZr.done hL hn).congr (fun i j _ _=>Zd u L below i j) (fun i _=>if_neg (by omega)) (fun _ _=>rfl),hg⟩;clear hH hBr hTr hAr hZr;go_wp2;go_loopw [39] (fun t wr=>∃i:Nat,i<=m/\t=.int .i64 i/\Hid (STt w wr g (f3 (.int .i64 u) (.slice a m cap) (.bool below)) m n (xK u L below i 0) (fun q=>if q < i then n - m+q else 0))) (fun t _=>m - (intOf t).toNat)
    case atStart=>exact⟨0,by omega,rfl,HX⟩
    case round=>
     clear HX p1;obtain⟨i,hi,rfl,hH⟩:=hrel;by_cases him2:i < m
     ·have i2:(i:Int) < (m:Int):=by omega
      obtain⟨b,o,x,rfl,hx,a2,cap2,rfl,hxs⟩:=HR.out i him2;have hbw:b < w.heap.size:=bL w _ hx;have cx:wr.cell? ⟨b,o+i,none⟩=some (.slice a2 (L.getD i []).length cap2):=(hH.out.bel.cell (p:=⟨b,o+i,none⟩) hbw).trans hx;have HXS:=hid hxs;clear hxs hx;obtain⟨l,hl⟩:∃l,l=L.getD i []:=⟨_,rfl⟩;rw[<-hl]at cx HXS;have HL:=hid hl;clear hl;obtain⟨ln,hln⟩:∃ln,ln=l.length:=⟨_,rfl⟩;rw[<-hln]at cx HXS;have HLN:=hid hln;have hl7:ln<=7:=by rw[hln,HL.out];exact HLE.out i him2
      clear hln;have HX:=hH;clear hH;go_wp2;go_loopw [46] (fun t wr=>∃q:Nat,q<=ln/\t=.int .i64 q/\Hid (STt w wr g (f3 (.int .i64 u) (.slice (some ⟨b,o,none⟩) m cap) (.bool below)) m n (xK u L below i q) (fun q=>if q < i then n - m+q else 0))) (fun t _=>ln - (intOf t).toNat)
      case atStart=>exact⟨0,by omega,rfl,HX⟩
      case round=>
       clear HX cx;obtain⟨q,hq,rfl,hH⟩:=hrel;by_cases hql:q < ln
       ·have q1:(q:Int) < (ln:Int):=by omega
        obtain⟨b2,o2,rfl,hy⟩:=HXS.out q hql;have cy:wr.cell? ⟨b2,o2+q,none⟩=some (.int .i64 (l.getD q 0:Nat)):=(hH.out.bel.cell (p:=⟨b2,o2+q,none⟩) (bL w _ hy)).trans hy
        have hju:l.getD q 0 < u:=by
         refine HI.out i him2 _ ?_;rw[<-HL.out,gD,gE (by rw[<-HLN.out];exact hql)];exact gM _
        have hjn:u<=n:=by rw[HN.out];split <;> omega
        obtain⟨y,hyy⟩:∃y,y=l.getD q 0:=⟨_,rfl⟩;rw[<-hyy]at cy hju;have HY:=hid hyy;have j2:(y:Int) < 20:=by omega
        have j3:(i:Int) < 8:=by omega
        have HX:=hH;clear hH hyy hy;go_wp2_with fail
        go_region_law (first|(go_simp;go_at_call 142;refine(xg (1) _).mono ?_;rintro e w2 ⟨rfl,hb'⟩;have hb:=qS hb';have hS2:=HX.out.below hb;obtain⟨d0,d1,f0,f1⟩:=hS2.cells (i:=i) (j:=y) (by omega) (by omega)))
        all_goals
         have HF:=hid ((hS2.put (i:=i) (j:=y) (by omega) (by omega) 1).congr (C':=xK u L below i (q+1)) (fun a b _ _=>by rw[U7 u L below i q (by rw[<-HL.out,<-HLN.out];exact hql),<-HL.out,<-HY.out]) (fun _ _=>rfl))
         clear hb hb' hS2 d0 d1 f0 f1
         go_wp2
         go_roundw
         case rel=>exact⟨q+1,by omega,by go_num,HF⟩
         case measure=>simp[intOf];omega
       ·obtain rfl:q=ln:=by omega
        have q1:¬((q:Int) < (q:Int)):=by omega
        obtain⟨e0,e1,e2⟩:=hH.out.arg.three;have HX:=hH;have hun:u+m<=n:=by rw[HN.out];split <;> omega
        have i3:(i:Int) < 8:=by omega
        have hgl:g < wr.heap.size:=bL wr _ hH.out.sx.lay.rows;clear hH;obtain⟨z,hz⟩:∃z:Nat,z=n - m+i:=⟨_,rfl⟩;have hzi:(n:Int) - (m:Int)+(i:Int)=(z:Int):=by omega
        have hzn:z < n:=by omega
        have hz20:(z:Int) < 20:=by omega
        have HZ:=hid hz;have HZI:Hid ((n:Int) - (m:Int)+(i:Int)=(z:Int)):=hid (by omega);clear hz hzi;have c1:wr.cell? ⟨g,1,none⟩=some (.int .i64 n):=HX.out.sx.lay.cols;have c0:wr.cell? ⟨g,0,none⟩=some (.int .i64 m):=HX.out.sx.lay.rows;have cb:=HX.out.sx.lay.bas i him2;have fb:=HX.out.sx.free (322+i) (by omega);cases below
        case false=>
         go_upto_region 22 with fail
         have HX2:=hid (HX.out.bas him2 z);rw[HZI.out];clear HX c0 c1 cb fb;have HX:=HX2;clear HX2;generalize wr.setCell ⟨g,322+i,none⟩ (.int .i64 (z:Nat))=w3 at *;have c1:w3.cell? ⟨g,1,none⟩=some (.int .i64 n):=HX.out.sx.lay.cols;have cb:w3.cell? ⟨g,322+i,none⟩=some (.int .i64 (z:Nat)):=(HX.out.sx.lay.bas i him2).trans (by simp);go_region_law (first|(go_simp;go_at_call 142;refine(xg (1) _).mono ?_;rintro e w2 ⟨rfl,hb'⟩;have hb:=qS hb';have hS2:=HX.out.below hb;obtain⟨d0,d1,f0,f1⟩:=hS2.cells (i:=i) (j:=z) (by omega) (by omega);have g1:w2.cell? ⟨g,1,none⟩=some (.int .i64 n):=hS2.sx.lay.cols;have g2:w2.cell? ⟨g,322+i,none⟩=some (.int .i64 (z:Nat)):=(hS2.sx.lay.bas i him2).trans (by simp)))
         all_goals
          have HX2:=hid (hS2.put (i:=i) (j:=z) (by omega) (by omega) 1)
          go_upto_region 23 with fail
          clear HX c1 cb hb hb' hS2 d0 d1 f0 f1 g1 g2
          have HX:=HX2
          clear HX2
          change Code.wp _ _ _ _ ((w2.setCell ⟨g,2+i*40+z*2,none⟩ (.int .i64 (1:Rat).num)).setCell ⟨g,2+i*40+z*2+1,none⟩ (.int .i64 (1:Rat).den))
          generalize (w2.setCell ⟨g,2+i*40+z*2,none⟩ (.int .i64 (1:Rat).num)).setCell ⟨g,2+i*40+z*2+1,none⟩ (.int .i64 (1:Rat).den)=w5 at *
          have c1:w5.cell? ⟨g,1,none⟩=some (.int .i64 n):=HX.out.sx.lay.cols
          have n20:(n:Int) < 20:=by omega
          go_region_law (first|(go_simp;go_at_call 142;refine(xg (1) _).mono ?_;rintro e w2 ⟨rfl,hb'⟩;have hb:=qS hb';have hS2:=HX.out.below hb;obtain⟨d0,d1,f0,f1⟩:=hS2.cells (i:=i) (j:=n) (by omega) (by omega);have g1:w2.cell? ⟨g,1,none⟩=some (.int .i64 n):=hS2.sx.lay.cols))
          all_goals
           have HF:=hid ((hS2.put (i:=i) (j:=n) (by omega) (by omega) 1).congr (C':=xK u L false (i+1) 0) (B':=fun a=>if a < i+1 then n - m+a else 0) (fun a b _ _=>by rw[HP.out i HN.out him2 (HI.out i him2),<-HL.out,<-HLN.out,<-HZ.out];first|rfl|simp) (fun a _=>Zb HZ.out a))
           clear hb hb' hS2 d0 d1 f0 f1 g1
           go_wp2
           go_roundw
           case rel=>exact⟨i+1,by omega,by go_num,HF⟩
           case measure=>simp[intOf];omega
        case true=>
         obtain⟨y,hy⟩:∃y:Nat,y=u+i:=⟨_,rfl⟩;have hyn:y<=n:=by omega
         have hy20:(y:Int) < 20:=by omega
         have hwr:IntKind.i64.wrap ((u:Int)+(i:Int))=(y:Int):=by rw[show(u:Int)+(i:Int)=(y:Int)by omega];exact wrap_small y (by omega)
         have HY:=hid hy;clear hy;go_upto_region 20 with fail
         go_region_law (first|(go_simp;go_at_call 142;refine(xg (-1) _).mono ?_;rintro e w2 ⟨rfl,hb'⟩;have hb:=qS hb';have hS2:=HX.out.below hb;obtain⟨d0,d1,f0,f1⟩:=hS2.cells (i:=i) (j:=y) (by omega) (by omega);have g0:w2.cell? ⟨g,0,none⟩=some (.int .i64 m):=hS2.sx.lay.rows;have g1:w2.cell? ⟨g,1,none⟩=some (.int .i64 n):=hS2.sx.lay.cols;have g2:=hS2.sx.lay.bas i him2;have g3:=hS2.sx.free (322+i) (by omega);have g4:=hS2.arg.three.1))
         all_goals
          have HX4:Hid (STt w ((w2.setCell ⟨g,2+i*40+y*2,none⟩ (.int .i64 (-1))).setCell ⟨g,2+i*40+y*2+1,none⟩ (.int .i64 1)) g (f3 (.int .i64 u) (.slice (some ⟨b,o,none⟩) m cap) (.bool true)) m n (fun a' b'=>if a'=i/\b'=y then (-1) else xK u L true i q a' b') (fun q=>if q < i then n - m+q else 0)):=hid (hS2.put (i:=i) (j:=y) (by omega) (by omega) (-1))
          clear HX c0 c1 cb fb hb hb' hS2 d0 d1 f0 f1 g0 g1 g2 g3 g4 e0 e1 e2
          have HX:=HX4
          clear HX4
          generalize (w2.setCell ⟨g,2+i*40+y*2,none⟩ (.int .i64 (-1))).setCell ⟨g,2+i*40+y*2+1,none⟩ (.int .i64 1)=w4 at *
          have c1:w4.cell? ⟨g,1,none⟩=some (.int .i64 n):=HX.out.sx.lay.cols
          have c0:w4.cell? ⟨g,0,none⟩=some (.int .i64 m):=HX.out.sx.lay.rows
          have cb:=HX.out.sx.lay.bas i him2
          have fb:=HX.out.sx.free (322+i) (by omega)
          go_upto_region 22 with fail
          have HX2:=hid (HX.out.bas him2 z)
          rw[HZI.out]
          clear HX c0 c1 cb fb
          have HX:=HX2
          clear HX2
          generalize w4.setCell ⟨g,322+i,none⟩ (.int .i64 (z:Nat))=w3 at *
          have c1:w3.cell? ⟨g,1,none⟩=some (.int .i64 n):=HX.out.sx.lay.cols
          have cb:w3.cell? ⟨g,322+i,none⟩=some (.int .i64 (z:Nat)):=(HX.out.sx.lay.bas i him2).trans (by simp)
          go_region_law (first|(go_simp;go_at_call 142;refine(xg (1) _).mono ?_;rintro e w2 ⟨rfl,hb'⟩;have hb:=qS hb';have hS2:=HX.out.below hb;obtain⟨d0,d1,f0,f1⟩:=hS2.cells (i:=i) (j:=z) (by omega) (by omega);have g1:w2.cell? ⟨g,1,none⟩=some (.int .i64 n):=hS2.sx.lay.cols;have g2:w2.cell? ⟨g,322+i,none⟩=some (.int .i64 (z:Nat)):=(hS2.sx.lay.bas i him2).trans (by simp)))
          all_goals
           have HX2:=hid (hS2.put (i:=i) (j:=z) (by omega) (by omega) 1)
           go_upto_region 23 with fail
           clear HX c1 cb hb hb' hS2 d0 d1 f0 f1 g1 g2
           have HX:=HX2
           clear HX2
           change Code.wp _ _ _ _ ((w2.setCell ⟨g,2+i*40+z*2,none⟩ (.int .i64 (1:Rat).num)).setCell ⟨g,2+i*40+z*2+1,none⟩ (.int .i64 (1:Rat).den))
           generalize (w2.setCell ⟨g,2+i*40+z*2,none⟩ (.int .i64 (1:Rat).num)).setCell ⟨g,2+i*40+z*2+1,none⟩ (.int .i64 (1:Rat).den)=w5 at *
           have c1:w5.cell? ⟨g,1,none⟩=some (.int .i64 n):=HX.out.sx.lay.cols
           have n20:(n:Int) < 20:=by omega
           go_region_law (first|(go_simp;go_at_call 142;refine(xg (1) _).mono ?_;rintro e w2 ⟨rfl,hb'⟩;have hb:=qS hb';have hS2:=HX.out.below hb;obtain⟨d0,d1,f0,f1⟩:=hS2.cells (i:=i) (j:=n) (by omega) (by omega);have g1:w2.cell? ⟨g,1,none⟩=some (.int .i64 n):=hS2.sx.lay.cols))
           all_goals
            have HF:=hid ((hS2.put (i:=i) (j:=n) (by omega) (by omega) 1).congr (C':=xK u L true (i+1) 0) (B':=fun a=>if a < i+1 then n - m+a else 0) (fun a b _ _=>by rw[HP.out i HN.out him2 (HI.out i him2),<-HL.out,<-HLN.out,<-HZ.out,<-HY.out];first|rfl|simp) (fun a _=>Zb HZ.out a))
            clear hb hb' hS2 d0 d1 f0 f1 g1
            go_wp2
            go_roundw
            case rel=>exact⟨i+1,by omega,by go_num,HF⟩
            case measure=>simp[intOf];omega
     ·obtain rfl:i=m:=by omega
      have i2:¬((i:Int) < (i:Int)):=by omega
      have hSr:SxAt wr g i n (xE u L below) (fun q=>n - i+q) (fun _=>false):=hH.out.sx.congr (fun a b ha _=>by
       unfold xK;by_cases e:a < i
       ·rw[if_pos e]
       ·obtain rfl:a=i:=by omega
        rw[if_neg e];unfold xE;rw[if_neg (show ¬a < L.length by rw[HM.out];exact e),if_neg (by simp)]) (fun a ha=>(if_pos ha).symm) (fun _ _=>rfl)
      have hBr:=hH.out.bel;have hTr:=hH.out.out;obtain⟨cz,hcz⟩:∃cz,cz=cellsOf wr g:=⟨_,rfl⟩;have hlen2:cz.length=350:=by rw[hcz];exact xN _ _
      have HZR:Hid (wr.rangeAt g 0 cz):=by rw[hcz];exact vT hSr
      have hsx2:IsSx cz.toArray i n (xE u L below) (fun q=>n - i+q) (fun _=>false):=by rw[hcz];exact XN hSr
      have HZO:=hid hsx2.one
      have HZT:Hid (wr.there (w.heap.size+1) 0 cz.toArray.size):=by
       rw[show cz.toArray.size=350 by simpa using hlen2];exact hTr
      have HZI:Hid ((Tryz.prog.info? 155).map (·.size)=some cz.length):=by
       show _=_;rw[hlen2];exact vL
      have HZJ:Hid ((Tryz.prog.info? 155).map (·.size)=some cz.toArray.size):=by
       show _=_;rw[show cz.toArray.size=350 by simpa using hlen2];exact vL
      clear hcz;have HZL:=hid hlen2;clear hlen2;go_wp2_with (first|(refine wpList_load_mid rfl 155 _ rfl g 0 (by rfl) cz _ (by exact HZR.out) Tryz.underlying155 (by rfl) (by exact HZI.out) ?_)|(refine wpList_store_mid rfl 155 _ _ rfl (w.heap.size+1) 0 cz.toArray (by rfl) (by rfl) (by exact HZT.out) (by exact HZJ.out) (by exact HZO.out) ?_))
      have hr6:(wr.setCells (w.heap.size+1) 0 cz.toArray.toList).rangeAt (w.heap.size+1) 0 cz:=by
       have:=World.rangeAt_setCells_same wr (w.heap.size+1) 0 cz.toArray.toList (by have:=HZT.out;simpa using this);simpa using this
      refine bodyPost_ret (v:=.agg cz.toArray) (uG Tryz.results116 _ _ (w.heap.size+1) cz _ (by rfl) hr6 Tryz.underlying155 (by rfl) HZI.out) rfl ⟨_,rfl,hsx2,zt (by omega) _ _ _ hBr⟩
end Go.Proofs.YtjbpgdpciinlcaaGreat
