import Derived.Test.YtkaipapdlnojiaaGreatWq29
import Derived.Test.YtkaipapdlnojiaaGreatWq38
set_option maxHeartbeats 40000000
set_option maxRecDepth 1000000
namespace Go.Proofs.YtkaipapdlnojiaaGreat
open Go.RowKit
theorem bx6{W:World}{p:Nat}{u0 u1 u2 u3 u4 u5:Value}(h:W.heap[p]?=some (.cells #[u0,u1,u2,u3,u4,u5] 30 (0,0))):W.cell? ⟨p,0,none⟩=some u0/\W.cell? ⟨p,1,none⟩=some u1/\W.cell? ⟨p,2,none⟩=some u2/\W.cell? ⟨p,3,none⟩=some u3/\W.cell? ⟨p,4,none⟩=some u4/\W.cell? ⟨p,5,none⟩=some u5/\∀o,W.frozen? ⟨p,o,none⟩=false:=by
 refine⟨?_,?_,?_,?_,?_,?_,λo=>?_⟩;iterate 6 rw[cell_of_row _ _ _ _ _ _ h];rfl
 unfold World.frozen?;rw[show W.heap[p]?=_ from h];simp
theorem qFC{a b:World}{o:Obj}(h:Bl a b):Bl a (b.alloc o):=h.alloc h.size o
def DpX(w W:World)(g:Nat)(a:Option Addr)(n cap k:Nat)(es:List (List Int))(p:Nat):Prop:=∃aB nB cB aP nP cP aH nH cH aW nW cW x y us bs ps hs,DpS w W g a n cap k es p (.slice aB nB cB) (.slice aP nP cP) (.slice aH nH cH) (.slice aW nW cW) x y us bs ps hs
theorem YL(w:World)(g:Nat)(a:Option Addr)(n cap k q:Nat)(hC:Rdr w g a n cap k)(hn:n<=1048576)(hk:k<=100000)(aE:Option Addr)(cE:Nat)(es:List (List Int))(hE:∀W,Kc g w W->ISS W (.slice aE es.length cE) es)(hS:zS es)(hp:xw (q:Int) es=true)(hq:1<=q)(D2:0 < es.length):
 Cl 14 #[.pointer (some ⟨g,0,none⟩),.int .i64 q,.slice aE es.length cE] w (DpE w g a n cap k):=by
 obtain⟨i0,hi,e5,e6,e7⟩:=info_parts Tryz.infoInt;obtain⟨iS,s7,s8,s9,t2⟩:=info_parts Tryz.infoIS;obtain⟨D3,p5,p7⟩:=Vl hp
 have f9:g < w.heap.size:=by
  obtain⟨k',sd,_,h2⟩:=hC;exact bL w _ h2.c0
 have b7:Hid (∀b o,a=some ⟨b,o,none⟩->0 < n->b < w.heap.size):=hid (λb o e D4=>by
  obtain⟨k',sd,_,h2⟩:=hC;exact h2.byteLt e D4)
 have l4:=hid hE;have p8:=hid hS;have i3:=hid hp;have p9:=hid p5;have t3:es.length<=7:=xH p5;have KP:Hid (∀(W:World) (k m:Nat),Rdr W g a n cap k->k<=1000000000->m<=256->Cl 35 #[.pointer (some ⟨g,0,none⟩),.int .i64 m] W λe w'=>∃z:Nat,e=.returned (.int .i64 z)/\(z < m∨z=0)/\Rdr w' g a n cap (k+1)/\Kc g W w'):=hid (λW k m h h1 h2=>yA W g a n cap k m h hn h1 h2);obtain⟨W0,i4⟩:∃W0,W0=w.alloc (.cells #[.slice none 0 0,.slice none 0 0,.slice none 0 0,.slice none 0 0,.int .i64 0,.int .i64 0] 30):=⟨_,rfl⟩;have l5:Bl w W0:=by rw[i4];exact(bM _ _).alloc (bK _) _
 have d6:W0.heap[w.heap.size]?=some (.cells #[.slice none 0 0,.slice none 0 0,.slice none 0 0,.slice none 0 0,.int .i64 0,.int .i64 0] 30 (0,0)):=by rw[i4];exact heap_alloc_new _ _
 have l6:W0.heap.size=w.heap.size+1:=by rw[i4];simp
 have KO:=hid (XS W0 g a n cap k q (hC.below l5) hn Oo hq Oo)
 have KE:Hid (∀W vo o,Kc g W0 W->IS W vo o->uZ (q:Int) o=true->Cl 39 #[.int .i64 q,.slice aE es.length cE,vo] W λe w'=>∃aB nB cB aP nP cP aH nH cH aW nW cW x y us bs ps hs,((∀x∈ps,-1<=x/\x<=1000)/\∀x∈hs,-1<=x/\x<=1000)/\e=.returned (.agg #[.slice aB nB cB,.slice aP nP cP,.slice aH nH cH,.slice aW nW cW,.int .i64 x,.int .i64 y])/\Fz W.heap.size (λX=>PlD X es (.slice aB nB cB) (.slice aP nP cP) (.slice aH nH cH) us bs ps hs) w'/\Bl W w'):=hid λW vo o hW h1 h2=>by
  refine(Xj W _ vo es o q (l4.out W ((Kc.ofBelow l5).trans hW)) p8.out h1 i3.out h2).mono ?_;rintro e w' ⟨vB,vs,vP,vH,vW,rfl,hP,D5,hb⟩;obtain⟨aB,cB,rfl⟩:=qW hP.rl.own;obtain⟨aP,cP,rfl⟩:=qW hP.ownP;obtain⟨aH,cH,rfl⟩:=qW hP.ownH;obtain⟨aW,cW,rfl⟩:=qW D5;exact⟨_,_,_,_,_,_,_,_,_,_,_,_,_,_,_,_,_,_,qFB i3.out h2,rfl,hP.fz.imp λX hX=>qD0 i3.out h2 hq hX,hb⟩
 have i5:=hid d6;have t4:=hid l6;have i6:=hid l5;clear hC hE hS hp p5 p7 d6 l6 l5;generalize hel:es.length=ne at *;go_enter Tryz.func14,Tryz.ntmps14
 go_upto_region 1 with fail
 rw[<-i4];clear i4
 go_upto_region 2 with (first
  |(go_at_call 40;refine KO.out.mono ?_;rintro e w1 ⟨v1,o1,rfl,t5,D6,t6,t7,i7⟩)
  |(go_at_call 39;refine(KE.out w1 v1 o1 i7 (qK t5) t6).mono ?_;rintro e w2 ⟨aB,nB,cB,aP,nP,cP,aH,nH,cH,aW,nW,cW,x,y,us,bs,ps,hs,d7,rfl,u4,i8⟩)
  |fail)
 have i9:=hid d7;clear d7;have l6:=t4.out;have u5:=i7.size;have u6:=i8.size
 have HD:Hid (DpS w (w2.alloc (.cells #[.slice aB nB cB,.slice aP nP cP,.slice aH nH cH,.slice aW nW cW,.int .i64 x,.int .i64 y] 30)) g a n cap (k+10) es w2.heap.size (.slice aB nB cB) (.slice aP nP cP) (.slice aH nH cH) (.slice aW nW cW) x y us bs ps hs):=hid ⟨(((Kc.ofBelow i6.out).trans i7).trans (Kc.ofBelow i8)).alW _,(t7.below i8).below ((bM _ _).alloc (bK _) _),f9,b7.out,by
  rw[Below.heap_alloc _ _ _ Oo];exact(i8.block _ Oo).trans (zu i5.out i7 Oo),Oo,heap_alloc_new _ _,λX hX=>u4 X λj h1 h2=>(hX j Oo (by simp;omega) Oo).trans (Below.heap_alloc _ _ _ h2)⟩
 have D7:w.heap.size < w2.heap.size:=Oo;clear t5 D6 t6 t7 i7 u4 i8 KO KE i5 i6 t4 l6 u5 u6;generalize w2.alloc (.cells #[.slice aB nB cB,.slice aP nP cP,.slice aH nH cH,.slice aW nW cW,.int .i64 x,.int .i64 y] 30)=w3 at *;generalize w2.heap.size=p at *;go_upto_block 0 with (first|(go_at_call 35;refine(KP.out _ _ 5 HD.out.rd Oo Oo).mono ?_;rintro e w4 ⟨z,rfl,hz,u9,v3⟩)|fail)
 have a6:=hid (HD.out.turn v3 u9);clear HD u9 v3;go_cut [8,9,11,12,13,14,15,16,17,19] from 30 to 152 (λ_ _ _ _ _ _ _ _ _ _ wx=>Hid (DpX w wx g a n cap (k+20) es p))
 case first=>
  by_cases e0:z=0
  ·subst e0;have i6:Hid (Bl w4 (w4.alloc (.cells #[] 3))):=hid ((bM _ _).alloc (bK _) _);have v4:Hid ((w4.alloc (.cells #[] 3)).ownsRow w4.heap.size 3 1 (.slice (some ⟨w4.heap.size,0,none⟩) 0 0) 0 ((upN 0).map (Value.int .i64))):=hid (oM w4 #[] 0 (bK _) Dd rfl);go_upto_block 1 with fail
   go_wp2_with fail
   go_loopg [8,9] q (λgk t8 t9 wx=>∃(j:Nat),t9=.int .i64 j/\j<=q/\gk=q - j/\Hid (Bl w4 wx/\wx.ownsRow w4.heap.size 3 1 t8 j ((upN j).map (Value.int .i64))))
   case atStart=>exact⟨0,rfl,nZ _,rfl,hid ⟨i6.out,v4.out⟩⟩
   case round=>
    clear i6 v4;obtain⟨j,rfl,hj,q3,HI⟩:=hrel;obtain⟨hB,hO⟩:=HI.out;have HB:=hid hB;have HO:=hid hO;obtain⟨ax,cx,ex⟩:=qW hO;subst ex;have D8:=hB.size;clear HI hB hO;by_cases I7:j < q
    ·have i1:(j:Int) < (q:Int):=Oo;go_wp2_with (first|(at_builtin;refine wpList_append_lies _ rfl _ _ 25 rfl w4.heap.size 3 i0 (.int .i64 0) 1 8 Tryz.underlying25 hi e5 e6 e7 rfl Dd (.slice ax j cx) j _ rfl (HO.out.alloc _) ⟨wr.heap.size,0,none⟩ 1 1 [.int .i64 (j:Int)] rfl rfl (zJ _ _ _) (λu hu=>by simp at hu;subst hu;rfl) Dd (by unfold maxLen;omega) Oo (by simp;omega) _ rfl ?_;intro g5 I8 O q4 l7 I3 I4)|fail)
     have D9:Bl w4 O:=(HB.out.alloc D8 _).grown l7 (by simp;omega) (λc hc=>(HO.out.lt c hc).1);have e1:upN (j+1)=upN j++[(j:Int)]:=by unfold upN;rw[List.range_succ,mA];rfl
     go_roundg (q - (j+1))
     case measure=>omega
     case rel=>exact⟨j+1,Gg,Oo,rfl,hid ⟨D9,by rw[e1,mA];exact q4⟩⟩
    ·obtain rfl:j=q:=Oo;have i1:¬(j:Int) < (j:Int):=Oo;have V:=hid (a6.out.bel HB.out);obtain⟨c0,c1,c2,c3,c4,c5,cf⟩:=V.out.cells;have l8:=cf 0;have l9:=cf 1;have v5:=cf 2;have m4:=cf 3;have m5:=cf 4;have m6:=cf 5;have I9:=a6.out.lt;have hP:=a6.out.hp;obtain⟨a5,d6,m7⟩:=V.out.set6 (.slice none 0 0) (.slice none 0 0) (.slice none 0 0) (.slice none 0 0) (.int .i64 0) (.int .i64 0);have i2:(0:Int) < (j:Int):=Oo;go_upto_region 10 with fail
     have m8:=hid (qA HO.out λc hc=>m7 c (by have:=(HO.out.lt c hc).1;omega));have v6:=hid (V.out.kc.up (a5.mono (Nat.le_succ _)));have v7:=hid (V.out.rd.above (a5.mono (Nat.le_succ _)) f9 b7.out);have v8:=hid ((a5.block _ (Nat.lt_succ_self _)).trans V.out.b6);have i5:=hid d6;have v9:=a5.size;clear c0 c1 c2 c3 c4 c5 cf l8 l9 v5 m4 m5 m6 a5 m7 HO HB V;generalize (((((wr.setCell ⟨p,0,none⟩ (.slice none 0 0)).setCell ⟨p,1,none⟩ (.slice none 0 0)).setCell ⟨p,2,none⟩ (.slice none 0 0)).setCell ⟨p,3,none⟩ (.slice none 0 0)).setCell ⟨p,4,none⟩ (.int .i64 0)).setCell ⟨p,5,none⟩ (.int .i64 0)=w6 at *;obtain⟨c0,c1,-,-,-,-,cf⟩:=bx6 d6;have l8:=cf 0;have l9:=cf 1;have m9:=zv d6;clear d6 cf;go_upto_region 13 with fail
     obtain⟨w7,e8⟩:∃w7,w7=(((w6.setCell ⟨p,0,none⟩ (.slice (some ⟨w6.heap.size,0,none⟩) 1 1)).setCell ⟨p,1,none⟩ (.slice (some ⟨w6.heap.size+1,0,none⟩) 1 1)).alloc (.cells #[.slice ax j cx] 25)).alloc (.cells #[.int .i64 (-1)] 3):=⟨_,rfl⟩
     have n4:Below (w.heap.size+1) w6 w7:=by
      rw[e8];exact((((bM _ _).setCell (by show w.heap.size+1<=p;omega) _).setCell (by show w.heap.size+1<=p;omega) _).alloc (by simp[World.setCell];omega) _).alloc (by simp[World.setCell];omega) _
     have w0:∀c,c≠p->c < w6.heap.size->w7.heap[c]?=w6.heap[c]?:=λc h1 h2=>by
      rw[e8,Below.heap_alloc _ _ _ (by simp[World.setCell];omega),Below.heap_alloc _ _ _ (by simpa[World.setCell]using h2),bE _ _ _ _ (show c≠p from h1),bE _ _ _ _ (show c≠p from h1)]
     have j4:w7.heap[p]?=some (.cells #[.slice (some ⟨w6.heap.size,0,none⟩) 1 1,.slice (some ⟨w6.heap.size+1,0,none⟩) 1 1,.slice none 0 0,.slice none 0 0,.int .i64 0,.int .i64 0] 30 (0,0)):=by
      rw[e8,Below.heap_alloc _ _ _ (by simp[World.setCell];omega),Below.heap_alloc _ _ _ (by simpa[World.setCell]using m9),bJ _ _ _ _ _ _ (bJ _ _ _ _ _ _ i5.out)];rfl
     have E0:w7.heap.size=w6.heap.size+2:=by rw[e8];simp[World.setCell]
     have x0:w7.heap[w6.heap.size]?=some (.cells #[.slice ax j cx] 25 (0,0)):=by
      rw[e8,Below.heap_alloc _ _ _ (by simp[World.setCell])];have:=heap_alloc_new ((w6.setCell ⟨p,0,none⟩ (.slice (some ⟨w6.heap.size,0,none⟩) 1 1)).setCell ⟨p,1,none⟩ (.slice (some ⟨w6.heap.size+1,0,none⟩) 1 1)) (.cells #[.slice ax j cx] 25);simpa[World.setCell]using this
     have x1:w7.heap[w6.heap.size+1]?=some (.cells #[.int .i64 (-1)] 3 (0,0)):=by
      rw[e8];have:=heap_alloc_new (((w6.setCell ⟨p,0,none⟩ (.slice (some ⟨w6.heap.size,0,none⟩) 1 1)).setCell ⟨p,1,none⟩ (.slice (some ⟨w6.heap.size+1,0,none⟩) 1 1)).alloc (.cells #[.slice ax j cx] 25)) (.cells #[.int .i64 (-1)] 3);simpa[World.setCell]using this
     rw[<-e8];clear e8;have x2:=hid (kV (B:=w4.heap.size) Oo x0);have E1:=hid (kV (B:=w4.heap.size) Oo x1);have n5:=hid (qA m8.out λc hc=>w0 c (by have:=(m8.out.lt c hc).1;omega) (m8.out.lt c hc).2);have h8:=hid (v6.out.up (n4.mono (Nat.le_succ _)));have E2:=hid (v7.out.above (n4.mono (Nat.le_succ _)) f9 b7.out);have E3:=hid ((n4.block _ (Nat.lt_succ_self _)).trans v8.out);have E4:=hid j4;have x3:p < w7.heap.size:=Oo;clear n4 w0 j4 x0 x1 m8 v6 v7 v8 i5 c0 c1 l8 l9 m9 v9 E0 a6;generalize w6.heap.size=b1 at *;go_wp2_with fail
     have q6:=hid hel;clear hel;go_loopg [11,12,52] ne (λgk _ _ t wx=>∃(i:Nat) (hh:List Int) (aH:Option Addr) (cH:Nat),t=.int .i64 i/\i<=ne/\gk=ne - i/\Hid (hh.length=i/\(∀x∈hh,-1<=x/\x<=1000)/\Kc p w7 wx/\wx.heap[p]?=some (.cells #[.slice (some ⟨b1,0,none⟩) 1 1,.slice (some ⟨b1+1,0,none⟩) 1 1,.slice aH i cH,.slice none 0 0,.int .i64 0,.int .i64 0] 30 (0,0))/\wx.ownsRow w7.heap.size 3 1 (.slice aH i cH) i (hh.map (Value.int .i64))))
     case atStart=>exact⟨0,[],none,0,rfl,nZ _,rfl,hid ⟨rfl,(λx hx=>by cases hx),Kc.refl _ _,E4.out,bG _ _ _ _⟩⟩
     case round=>
      obtain⟨i,hh,aH,cH,rfl,q7,q3,HI⟩:=hrel;obtain⟨hl,d7,e9,x4,f4⟩:=HI.out;have HL:=hid hl;have E5:=hid d7;have n6:=hid e9;have q8:=hid x4;have j5:=hid f4;have h6:Kc g w wr:=⟨e9.os.trans h8.out.os,e9.tape.trans h8.out.tape,e9.output.trans h8.out.output,bQ h8.out.size e9.size,λc hc E6=>(e9.block c (bV hc h8.out.size) Oo).trans (h8.out.block c hc E6)⟩;have q9:=e9.size;clear HI hl d7 e9 x4 f4;by_cases I5:i < ne
      ·have q1:(i:Int) < (ne:Int):=Oo
       obtain⟨b,o,a1,c1,ea,g2⟩:∃b o a1 c1,aE=some ⟨b,o,none⟩/\wr.cell? ⟨b,o+i,none⟩=some (.slice a1 (es.getD i []).length c1):=by
        obtain⟨a',c',e',h'⟩:=l4.out wr h6;cases e'
        rcases h' with h'|⟨b,o,rfl,h'⟩
        ·have:=q6.out;omega
        ·obtain⟨u,hu,a1,c1,rfl,-⟩:=h' i (by have:=q6.out;omega);exact⟨b,o,a1,c1,rfl,hu⟩
       subst ea;obtain⟨-,-,d2,-,-,-,df⟩:=bx6 q8.out
       have HF:Hid (∀ob w3,(wr.alloc ob).grownBy w3 (Value.slice aH i cH).ownBlock->w3.heap[p]?=wr.heap[p]?/\w3.cell? ⟨p,2,none⟩=some (.slice aH i cH)/\w3.frozen? ⟨p,2,none⟩=false):=hid λob w3 hg=>by
        have hk:w3.heap[p]?=wr.heap[p]?:=(hg.block _ (by simp;omega) (λe=>by have:=(j5.out.lt _ e.symm).1;omega)).trans (Below.heap_alloc _ _ _ Oo);exact⟨hk,(bF (w:=wr) (a:=⟨p,2,none⟩) hk).trans d2,(World.frozen?_of_block (w:=wr) (a:=⟨p,2,none⟩) hk).trans (df 2)⟩
       clear df h6;generalize (es.getD i []).length=le at *;go_upto_if 58 with fail
       go_cut [12] from 54 to 64 (λv wx=>∃h:Int,v=.int .i64 h/\-1<=h/\h<=1000/\wx=wr)
       case first=>
        by_cases hle:le=0
        ·subst hle;go_wp2_with fail
         go_meet;exact⟨-1,rfl,Oo,Oo,rfl⟩
        ·have j1:((le:Int) == 0)=false:=by simp;omega
         have j2:¬(le:Int)=0:=Oo;go_wp2_with fail
         go_meet;exact⟨0,rfl,Oo,Oo,rfl⟩
       case rest=>
       obtain⟨hv,rfl,K0,K1,j6⟩:=hcut;subst j6;go_wp2_with (first|(at_builtin;refine wpList_append_lies _ rfl _ _ 25 rfl w7.heap.size 3 i0 (.int .i64 0) 1 8 Tryz.underlying25 hi e5 e6 e7 rfl Dd (.slice aH i cH) i _ rfl (j5.out.alloc _) ⟨wc.heap.size,0,none⟩ 1 1 [.int .i64 hv] rfl rfl (zJ _ _ _) (λu hu=>by simp at hu;subst hu;rfl) Dd (by unfold maxLen;omega) Oo (by simp;omega) _ rfl ?_;intro g8 a8 w8 M I a7 h7;obtain⟨k0,k2,f2⟩:=HF.out _ _ I)|fail)
       have k1:Below w7.heap.size wc w8:=((bM _ _).alloc Oo _).grown I (by simp;omega) (λc hc=>(j5.out.lt c hc).1);have E7:=(M.lt g8 rfl).1
       have HZ:Hid ((hh++[hv]).length=i+1/\(∀x∈hh++[hv],-1<=x/\x<=1000)/\Kc p w7 (w8.setCell ⟨p,2,none⟩ (.slice (some ⟨g8,0,none⟩) (i+1) a8))/\(w8.setCell ⟨p,2,none⟩ (.slice (some ⟨g8,0,none⟩) (i+1) a8)).heap[p]?=some (.cells #[.slice (some ⟨b1,0,none⟩) 1 1,.slice (some ⟨b1+1,0,none⟩) 1 1,.slice (some ⟨g8,0,none⟩) (i+1) a8,.slice none 0 0,.int .i64 0,.int .i64 0] 30 (0,0))/\(w8.setCell ⟨p,2,none⟩ (.slice (some ⟨g8,0,none⟩) (i+1) a8)).ownsRow w7.heap.size 3 1 (.slice (some ⟨g8,0,none⟩) (i+1) a8) (i+1) ((hh++[hv]).map (Value.int .i64))):=hid ⟨by simp[HL.out],λx hx=>by
        rcases List.mem_append.1 hx with hx|hx
        ·exact E5.out x hx
        ·rw[List.mem_singleton]at hx;omega,(n6.out.up k1).set 2 _,by rw[bJ _ _ _ _ _ _ (k0.trans q8.out)];rfl,by
         rw[mA];exact qA M λc hc=>bE _ _ _ _ (by have:=(M.lt c hc).1;show c≠p;omega)⟩
       clear k1 k0 k2 f2 M I a7 h7 E7 HF d2 g2;go_roundg (ne - (i+1))
       case measure=>omega
       case rel=>exact⟨i+1,_,_,_,Gg,Oo,rfl,HZ⟩
      ·obtain rfl:i=ne:=Oo;have q1:¬(i:Int) < (i:Int):=Oo;have I6:w4.heap.size<=w7.heap.size:=by have:=(x2.out.lt b1 rfl);omega
       have x5:Hid (DpX w wr g a n cap (k+20) es p):=hid ⟨_,_,_,_,_,_,_,_,_,_,_,_,0,0,_,[upN j],[-1],hh,h6,(E2.out.kcp n6.out Oo (λb o e h0=>Nat.lt_trans (b7.out b o e h0) hP)).mono Oo,f9,b7.out,(n6.out.block _ Oo Oo).trans E3.out,hP,q8.out,λX hX=>by
        have r2:∀{m s:Nat} {t:TypeId} {v:Value} {xs:List Value},w7.ownsRow w4.heap.size t s v m xs->X.ownsRow w4.heap.size t s v m xs:=λhv=>qA hv λc hc=>by
         have:=hv.lt c hc;exact(hX c Oo Oo Oo).trans (n6.out.block c this.2 Oo)
        have E8:X.ownsRow w7.heap.size 3 1 (.slice aH i cH) hh.length (hh.map (Value.int .i64)):=by
         rw[HL.out]
         exact qA j5.out λc hc=>by
          have:=j5.out.lt c hc;exact hX c Oo Oo Oo
        exact qD1 i3.out hq (r2 n5.out) (r2 x2.out) (r2 E1.out) E8 (by rw[HL.out,q6.out])⟩
       clear h6;go_wp2_with fail
       go_meet;exact x5
  ·by_cases e1:z=1
   ·subst e1;obtain⟨d0,-,-,-,-,-,-⟩:=a6.out.cells;have K:=a6.out.now;obtain⟨a',E9,eB,g4⟩:=K.b;obtain⟨rfl,n8,rfl⟩:aB=a'/\nB=bs.length/\cB=E9:=by cases eB;exact⟨rfl,rfl,rfl⟩
    clear eB;obtain⟨o6,o7⟩:=K.bl;rw[<-n8]at o6 o7 g4;have d8:=hid n8;have t0:(0:Int) < (nB:Int):=Oo;by_cases x7:nB < 12
    ·have t1:(nB:Int) < 12:=Oo
     obtain⟨bb,ob,ea,z9⟩:∃b o,aB=some ⟨b,o,none⟩/\∀j,j < nB->w4.cell? ⟨b,o+j,none⟩=some (us.getD j undef)/\ISc w4 (us.getD j undef) (bs.getD j []):=by
      rcases g4 with g4|g4
      ·omega
      ·exact g4
     subst ea;have F0:=hid z9;clear g4 z9 K n8;go_upto_region 24 with (first|(go_at_call 35;refine(KP.out _ _ nB a6.out.rd Oo Oo).mono ?_;rintro e O ⟨z5,rfl,K2,A0,A1⟩)|fail)
     have o8:z5 < nB:=Oo;have V:=hid (a6.out.turn A1 A0);clear A1 A0 F0 a6 d0;have A2:=V.out.hp;have r3:=V.out.lt;have g6:Hid (∀W,Kc g O W->PlD W es (.slice (some ⟨bb,ob,none⟩) nB cB) (.slice aP nP cP) (.slice aH nH cH) us bs ps hs):=hid λW hW=>V.out.pl W λc h1 h2 h3=>hW.block c h2 Oo
     obtain⟨bx,ox,lx,cx,bag,r4,A3,K3,L0,k4,A4⟩:∃bx ox lx cx bag,lx=bag.length/\us.getD z5 undef=.slice (some ⟨bx,ox,none⟩) lx cx/\lx<=cx/\0 < lx/\(GoodBag es bag/\lx<=6)/\Hid (∀W,Kc g O W->IS W (.slice (some ⟨bx,ox,none⟩) lx cx) bag):=by
      have hz:z5 < bs.length:=by rw[<-d8.out];exact o8
      have A5:bs.getD z5 []∈bs:=by rw[gD,bC hz];exact gM hz
      have o9:∀W,Kc g O W->ISc W (us.getD z5 undef) (bs.getD z5 []):=λW hW=>by
       obtain⟨a',c',e',h'⟩:=(g6.out W hW).b;cases e'
       rcases h' with h'|⟨b,o,-,h'⟩
       ·omega
       ·exact(h' z5 hz).2
      have hg:=(g6.out O (Kc.refl _ _)).good _ A5;obtain⟨⟨a1,c1,e1,F1⟩,a2,n2,c2,e2,hle⟩:=o9 O (Kc.refl _ _);rw[e1]at e2;cases e2
      rcases F1 with h0|⟨b1,o1,rfl,-⟩
      ·omega
      ·exact⟨b1,o1,_,c1,_,rfl,e1,hle,hg.2,⟨hg.1,xq hg.1.set⟩,hid λW hW=>by rw[<-e1];exact(o9 W hW).1⟩
     have r5:Hid (∀W,Kc g O W->W.cell? ⟨p,0,none⟩=some (.slice (some ⟨bb,ob,none⟩) nB cB)/\W.cell? ⟨bb,ob+z5,none⟩=some (.slice (some ⟨bx,ox,none⟩) lx cx)/\Kc g O W):=hid λW hW=>by
      refine⟨hW.cell Oo V.out.cells.1,?_,hW⟩;obtain⟨a',c',e',h'⟩:=(g6.out W hW).b;rw[<-d8.out]at e' h';cases e'
      rcases h' with h'|⟨b,o,eb,h'⟩
      ·omega
      ·cases eb
       rw[(h' z5 o8).1,A3]
     have d9:g < O.heap.size:=Oo;have b9:Hid (∀b o,a=some ⟨b,o,none⟩->0 < n->b < O.heap.size):=hid λb o e h0=>by have:=b7.out b o e h0;omega
     have A6:Hid (∀W,Bl O W->Cl 35 #[.pointer (some ⟨g,0,none⟩),.int .i64 lx] W λe w'=>∃z:Nat,e=.returned (.int .i64 z)/\z < lx/\Rdr w' g a n cap (k+10+1+1+1)/\Kc g W w'):=hid λW hW=>(yA W g a n cap _ lx (V.out.rd.below hW) hn Oo Oo).mono λe w' ⟨z,h1,h2,h3,h4⟩=>⟨z,h1,Oo,h3,h4⟩
     have k5:Hid (∀W (z:Nat),Kc g O W->z < lx->∀(j:Nat) (u:Value),((bag.drop z).map (Value.int .i64))[j]?=some u->W.cell? ((⟨bx,ox+z,none⟩:Addr).add j)=some u):=hid λW z hW hz j u hj=>by
      obtain⟨-,b,o,eb,h1⟩:=Qm (A4.out W hW) Oo;cases eb
      have h2:=h1 W (bM _ _) (z+j) u (by rw[<-hj,List.map_drop,List.getElem?_drop]);rw[YH]at h2 ⊢;rw[Nat.add_assoc];exact h2
     have k7:Hid (∀z,((bag.drop z).map (Value.int .i64)).length=(lx - z)*1):=hid λz=>by simp[r4]
     obtain⟨c0,c1,-⟩:=r5.out O (Kc.refl _ _);clear A3;have A7:=hid r4;clear r4;go_cut [14] from 83 to 103 (λu wx=>∃r,u=.pointer (some ⟨r,0,none⟩)/\Hid (Fx1 g a n cap (k+10+1+1+1) O wx bag lx (IntKind.i64.wrap ((z5:Int)+1)) r))
     case first=>
      have L1:lx<=6:=k4.2;clear l4 p8 i3 p9 KP i9 g6 A4 k4 d8 b7 s7 s8 s9 t2 V A2 r3 D2 t3 hel t0 t1 x7 o6 o7 hq D3 hk hn D7
      first|go_region_held_law (λW=>W.cell? ⟨p,0,none⟩=some (.slice (some ⟨bb,ob,none⟩) nB cB)/\W.cell? ⟨bb,ob+z5,none⟩=some (.slice (some ⟨bx,ox,none⟩) lx cx)/\Kc g O W)
       (first|(refine r5.out _ ?_;(repeat(first|(with_reducible exact Kc.refl _ _)|(with_reducible exact A8)|(with_reducible exact p1)|(with_reducible refine Kc.dwW ?_)|(with_reducible refine Kc.alW ?_ _)|(with_reducible refine Kc.nwW ?_ (by first|exact bK _|omega|(simp only[World.size_alloc];omega)))));done)|fail)
       (first
        |(go_simp;go_at_call 35;refine(A6.out _ (by(repeat(first|(with_reducible exact bM _ _)|(with_reducible refine Below.drew ?_)|(with_reducible refine qFC ?_))))).mono ?_;rintro e w6 ⟨z,rfl,hz,n9,o2⟩;(first|have U:=Lg.call (Lg.start (g:=g) (W0:=O)).drew d9 o2|have U:=Lg.call (Lg.start (g:=g) (W0:=O)).alloc.drew d9 o2|have U:=Lg.call (Lg.start (g:=g) (W0:=O)).alloc.alloc.drew d9 o2|have U:=Lg.call (Lg.start (g:=g) (W0:=O)).alloc.alloc.alloc.drew d9 o2);have p1:=U.kc;have v9:=p1.size;have s1:(z:Int)<=(lx:Int):=Oo;have s2:¬cx=z:=Oo;have s3:(lx:Int)<=(cx:Int):=Oo)
        |((first|(refine step_append_lies _ (by rfl) (.tmp 83) (.tmp 97) 25 (by rfl) O.heap.size 3 i0 (.int .i64 0) 1 8 Tryz.underlying25 hi e5 e6 e7 rfl Dd _ 0 [] rfl (Lg.own0 U Ss) ⟨bx,ox+z,none⟩ (lx - z) (cx - z) ((bag.drop z).map (Value.int .i64)) (by rfl) (k7.out z) (k5.out _ z (U).kc hz) vK Oo (by unfold maxLen;omega) Oo (U).kc.size _ rfl ?_)|(refine step_append_lies _ (by rfl) (.tmp 83) (.tmp 97) 25 (by rfl) O.heap.size 3 i0 (.int .i64 0) 1 8 Tryz.underlying25 hi e5 e6 e7 rfl Dd _ 0 [] rfl (Lg.own0 (U).alloc Ss) ⟨bx,ox+z,none⟩ (lx - z) (cx - z) ((bag.drop z).map (Value.int .i64)) (by rfl) (k7.out z) (k5.out _ z ((U).alloc).kc hz) vK Oo (by unfold maxLen;omega) Oo ((U).alloc).kc.size _ rfl ?_)|(refine step_append_lies _ (by rfl) (.tmp 83) (.tmp 97) 25 (by rfl) O.heap.size 3 i0 (.int .i64 0) 1 8 Tryz.underlying25 hi e5 e6 e7 rfl Dd _ 0 [] rfl (Lg.own0 ((U).alloc).alloc Ss) ⟨bx,ox+z,none⟩ (lx - z) (cx - z) ((bag.drop z).map (Value.int .i64)) (by rfl) (k7.out z) (k5.out _ z (((U).alloc).alloc).kc hz) vK Oo (by unfold maxLen;omega) Oo (((U).alloc).alloc).kc.size _ rfl ?_)|(refine step_append_lies _ (by rfl) (.tmp 83) (.tmp 97) 25 (by rfl) O.heap.size 3 i0 (.int .i64 0) 1 8 Tryz.underlying25 hi e5 e6 e7 rfl Dd _ 0 [] rfl (Lg.own0 (((U).alloc).alloc).alloc Ss) ⟨bx,ox+z,none⟩ (lx - z) (cx - z) ((bag.drop z).map (Value.int .i64)) (by rfl) (k7.out z) (k5.out _ z ((((U).alloc).alloc).alloc).kc hz) vK Oo (by unfold maxLen;omega) Oo ((((U).alloc).alloc).alloc).kc.size _ rfl ?_));intro g8 c8 w8 M I a7 h7;simp only[Nat.zero_add,List.nil_append]at M;(first|have a4:=Lg.grow U n9 d9 b9.out Ss I a7 M|have a4:=Lg.grow (U).alloc (Rdr.below n9 ((bM _ _).alloc (bK _) _)) d9 b9.out Ss I a7 M|have a4:=Lg.grow ((U).alloc).alloc (Rdr.below (Rdr.below n9 ((bM _ _).alloc (bK _) _)) ((bM _ _).alloc (bK _) _)) d9 b9.out Ss I a7 M|have a4:=Lg.grow (((U).alloc).alloc).alloc (Rdr.below (Rdr.below (Rdr.below n9 ((bM _ _).alloc (bK _) _)) ((bM _ _).alloc (bK _) _)) ((bM _ _).alloc (bK _) _)) d9 b9.out Ss I a7 M);have A8:=a4.lg.kc;have L2:=A8.size;(try(first|(refine(λh4=>?_) (a4.lg.get (k:=O.heap.size) (o:=(.cells #[.slice none 0 0,.slice none 0 0,.slice none 0 0,.slice none 0 0,.int .i64 0,.int .i64 0] 30 (0,0))) ?_);rotate_left 1;focus (simp[nE];done))|(refine(λh4=>?_) (a4.lg.get (k:=O.heap.size+1) (o:=(.cells #[.slice none 0 0,.slice none 0 0,.slice none 0 0,.slice none 0 0,.int .i64 0,.int .i64 0] 30 (0,0))) ?_);rotate_left 1;focus (simp[nE];done))|(refine(λh4=>?_) (a4.lg.get (k:=O.heap.size+1+1) (o:=(.cells #[.slice none 0 0,.slice none 0 0,.slice none 0 0,.slice none 0 0,.int .i64 0,.int .i64 0] 30 (0,0))) ?_);rotate_left 1;focus (simp[nE];done))|(refine(λh4=>?_) (a4.lg.get (k:=w6.heap.size) (o:=(.cells #[.slice none 0 0,.slice none 0 0,.slice none 0 0,.slice none 0 0,.int .i64 0,.int .i64 0] 30 (0,0))) ?_);rotate_left 1;focus (simp[nE];done))|(refine(λh4=>?_) (a4.lg.get (k:=w6.heap.size+1) (o:=(.cells #[.slice none 0 0,.slice none 0 0,.slice none 0 0,.slice none 0 0,.int .i64 0,.int .i64 0] 30 (0,0))) ?_);rotate_left 1;focus (simp[nE];done))|(refine(λh4=>?_) (a4.lg.get (k:=w6.heap.size+1+1) (o:=(.cells #[.slice none 0 0,.slice none 0 0,.slice none 0 0,.slice none 0 0,.int .i64 0,.int .i64 0] 30 (0,0))) ?_);rotate_left 1;focus (simp[nE];done))));(try(have L3:=λob=>bxC (hpA h4 ob);have L4:=λob F2=>bxC (hpA (hpA h4 ob) F2))))
        |fail)|fail
      all_goals(go_wp2_with fail;go_meet;refine⟨_,rfl,hid ?_⟩)
      all_goals first
       |with_reducible exact Lq.leaf a4.alloc.alloc hz Ss List.mem_cons_self Ss (by simp[nE])
       |with_reducible exact Lq.leaf a4.alloc.alloc hz Ss (mC _ List.mem_cons_self) Ss (by simp[nE])
       |with_reducible exact Lq.leaf a4.alloc.alloc.alloc hz Ss List.mem_cons_self Ss Ss
       |with_reducible exact Lq.leaf a4.alloc.alloc.alloc hz Ss (mC _ List.mem_cons_self) Ss Ss
       |with_reducible exact Lq.leaf a4.alloc.alloc.alloc hz Ss (mC _ (mC _ List.mem_cons_self)) Ss Ss
       |with_reducible exact Lq.leaf (Lq.fill a4.alloc (by simp[nE])) hz rfl List.mem_cons_self (by simp[nPl]) (by simp[nE,nPl])
       |with_reducible exact Lq.leaf (Lq.fill a4.alloc.alloc (by simp[nE])) hz rfl List.mem_cons_self (by simp[nPl]) (by simp[nPl])
     case rest=>
     clear r5 A6 k5 k7 c0 c1 KP;generalize wc=w6 at *;obtain⟨r,rfl,hcut⟩:=hcut;obtain⟨z,qb,m,c,k2,k3,L5,hm,hF⟩:=hcut.out;have A9:=hid (hF.qs d9 b9.out);have p2:=hF.kc;obtain⟨d0,-,-,-,-,-,-⟩:=V.out.cells;have F3:w6.cell? ⟨p,0,none⟩=some (.slice (some ⟨bb,ob,none⟩) nB cB):=p2.cell Oo d0;clear hcut hF p2 d0;go_upto_block 5 with fail
     clear F3;go_wp2_with fail
     go_loopg [15,16,17,107] nB (λgk _ _ _ t wx=>∃(j:Nat) (aQ:Option Addr) (cQ:Nat) (aR:Option Addr) (cR:Nat) (uq:List Value) (pq:List Int),t=.int .i64 j/\j<=nB/\gk=nB - j/\Hid (uq.length=j+1/\pq.length=j+1/\(∀i,i < j->uq.getD (i+1) undef=us.getD i undef)/\uq.getD 0 undef=.slice (some ⟨qb,0,none⟩) m c/\QS g a n cap (k+10+1+1+1) O wx r (.slice aQ (j+1) cQ) (.slice aR (j+1) cR) uq pq qb m c ((bag.drop z).map (Value.int .i64))))
     case atStart=>exact⟨0,_,_,_,_,_,_,rfl,nZ _,rfl,hid ⟨rfl,rfl,(λi hi=>absurd hi (Nat.not_lt_zero _)),rfl,A9.out⟩⟩
     case round=>
      clear A9;obtain⟨j,aQ,cQ,aR,cR,uq,pq,rfl,hj,q3,HI⟩:=hrel;obtain⟨B0,B1,B2,B3,hQ⟩:=HI.out;have h5:=hid B0;have o3:=hid B1;have B4:=hid B2;have B5:=hid B3;have HQ:=hid hQ;have q9:=hQ.kc.size;have L6:=hQ.hr;have f7:=g6.out wr hQ.kc;obtain⟨q0,q1,-,-,-,-,qf⟩:=bx6 hQ.bx;have B6:=qf 0;have o4:=qf 1;clear HI B0 B1 B2 B3 hQ qf;by_cases B7:j < nB
      ·have i1:(j:Int) < (nB:Int):=Oo
       obtain⟨a1,l1,c1,g2,F4⟩:∃a1 l1 c1,wr.cell? ⟨bb,ob+j,none⟩=some (.slice a1 l1 c1)/\us.getD j undef=.slice a1 l1 c1:=by
        obtain⟨a',c',e',h'⟩:=f7.b;rw[<-d8.out]at e' h';cases e'
        rcases h' with h'|⟨b,o,eb,h'⟩
        ·omega
        ·cases eb
         obtain⟨h1,⟨a1,c1,e1,-⟩,-⟩:=h' j B7;rw[e1]at h1;exact⟨_,_,_,h1,e1⟩
       clear f7;go_upto_region 29 with (first|(at_builtin;refine wpList_append_lies _ rfl _ _ 24 rfl O.heap.size 25 iS (.slice none 0 0) 1 24 Tryz.underlying24 s7 s8 s9 t2 rfl Dd (.slice aQ (j+1) cQ) (j+1) uq rfl (by have:=HQ.out.oQ.alloc (.cells #[.slice a1 l1 c1] 25);rw[h5.out]at this;exact this) ⟨wr.heap.size,0,none⟩ 1 1 [.slice a1 l1 c1] rfl rfl (zJ _ _ _) (λu hu=>by simp at hu;subst hu;rfl) Dd (by unfold maxLen;omega) Oo (by rw[World.size_alloc];omega) _ rfl ?_;intro g7 c7 w7 k8 e3 B8 B9;have j4:w7.heap[r]?=wr.heap[r]?:=zI e3 (zv HQ.out.bx) (own_ne HQ.out.oQ ⟨_,HQ.out.bx⟩ Dd);obtain⟨y0,-,-,-,-,-,yf⟩:=bx6 (j4.trans HQ.out.bx);have F5:=yf 0)|fail)
       have b0:=hid (HQ.out.pushQ e3 (by rw[h5.out];exact k8));clear k8 e3 B8 B9 j4 y0 yf F5 q0 q1 B6 o4 HQ g2 q9;generalize w7.setCell ⟨r,0,none⟩ (.slice (some ⟨g7,0,none⟩) (j+1+1) c7)=w8 at *;have q9:=b0.out.kc.size
       obtain⟨bP,oP,eP,r6⟩:∃bP oP,aP=some ⟨bP,oP,none⟩/\w8.cell? ⟨bP,oP+j,none⟩=some (.int .i64 (ps.getD j 0))/\nP=nB:=by
        have f7:=g6.out w8 b0.out.kc;have m9:=f7.pl;obtain⟨a',c',e',h'⟩:=f7.p;rw[m9,<-d8.out]at e' h';cases e'
        rcases h' with h'|⟨b,o,eb,h'⟩
        ·omega
        ·exact⟨b,o,eb,h' j B7,rfl⟩
       subst eP;obtain⟨r6,F6⟩:=r6;have F7:w8.cell? ⟨p,1,none⟩=some (.slice (some ⟨bP,oP,none⟩) nP cP):=b0.out.kc.cell Oo V.out.cells.2.1
       have d7:-1<=ps.getD j 0/\ps.getD j 0<=1000:=by
        rw[gD];cases e:ps[j]? with
        |none=>exact⟨Dd,Dd⟩
        |some x=>exact i9.out.1 x (List.mem_of_getElem? e)
       have L7:(j:Int) < (nP:Int):=Oo;clear F6;generalize ps.getD j 0=pj at *;go_upto_if 124 with fail
       go_cut [17] from 118 to 132 (λv wx=>∃h:Int,v=.int .i64 h/\wx=w8)
       case first=>
        by_cases F8:0<=pj
        ·go_wp2_with fail
         go_meet;exact⟨_,rfl,rfl⟩
        ·have C0:pj < 0:=Oo;go_wp2_with fail
         go_meet;exact⟨_,rfl,rfl⟩
       case rest=>
       obtain⟨hv,rfl,j6⟩:=hcut;subst j6;obtain⟨-,q1,-,-,-,-,qf⟩:=bx6 b0.out.bx;have o4:=qf 1;clear qf F7 r6 d7;go_wp2_with (first|(at_builtin;refine wpList_append_lies _ rfl _ _ 25 rfl O.heap.size 3 i0 (.int .i64 0) 1 8 Tryz.underlying25 hi e5 e6 e7 rfl Dd (.slice aR (j+1) cR) (j+1) (pq.map (Value.int .i64)) rfl (by have:=b0.out.oR.alloc (.cells #[.int .i64 hv] 3);rw[o3.out]at this;exact this) ⟨wc.heap.size,0,none⟩ 1 1 [.int .i64 hv] rfl rfl (zJ _ _ _) (λu hu=>by simp at hu;subst hu;rfl) Dd (by unfold maxLen;omega) Oo (by rw[World.size_alloc];omega) _ rfl ?_;intro g9 c9 w9 k9 e4 p3 C1;have C2:w9.heap[r]?=wc.heap[r]?:=zI e4 (zv b0.out.bx) (own_ne b0.out.oR ⟨_,b0.out.bx⟩ Dd);obtain⟨-,y1,-,-,-,-,yf⟩:=bx6 (C2.trans b0.out.bx);have F9:=yf 1)|fail)
       have C3:=hid (b0.out.pushR e4 (by rw[o3.out];exact k9) p3)
       have HZ:Hid ((uq++[Value.slice a1 l1 c1]).length=j+1+1/\(pq++[hv]).length=j+1+1/\(∀i,i < j+1->(uq++[Value.slice a1 l1 c1]).getD (i+1) undef=us.getD i undef)/\(uq++[Value.slice a1 l1 c1]).getD 0 undef=.slice (some ⟨qb,0,none⟩) m c):=hid ⟨by simp[h5.out],by simp[o3.out],λi hi=>by
        by_cases e:i < j
        ·rw[jN (by have:=h5.out;omega)];exact B4.out i e
        ·obtain rfl:i=j:=Oo;rw[<-h5.out,kY,F4],by
        rw[jN (by have:=h5.out;omega)];exact B5.out⟩
       clear k9 e4 p3 C1 C2 y1 yf F9 q1 o4 b0;go_roundg (nB - (j+1))
       case measure=>omega
       case rel=>exact⟨j+1,_,_,_,_,_,_,Gg,Oo,rfl,hid ⟨HZ.out.1,HZ.out.2.1,HZ.out.2.2.1,HZ.out.2.2.2,C3.out⟩⟩
      ·have G0:j=nB:=Oo;subst G0;have i1:¬(j:Int) < (j:Int):=Oo;have G1:wr.cell? ⟨p,2,none⟩=some (.slice aH nH cH):=HQ.out.kc.cell Oo V.out.cells.2.2.1
       have G2:nH=ne:=by
        obtain⟨a',c',e',-⟩:=f7.h;cases e'
        rw[f7.hl];exact hel
       subst G2;clear f7 q0 q1 B6 o4;go_upto_block 7 with fail
       generalize wr=w9 at *;have C4:=hid HQ.out.bx;clear G1;go_wp2_with fail
       go_loopg [19,137] nH (λgk _ t wx=>∃(i:Nat) (hh:List Int) (aS:Option Addr) (cS:Nat),t=.int .i64 i/\i<=nH/\gk=nH - i/\Hid (hh.length=i/\Kc r w9 wx/\wx.heap[r]?=some (.cells #[.slice aQ (j+1) cQ,.slice aR (j+1) cR,.slice aS i cS,.slice none 0 0,.int .i64 0,.int .i64 0] 30 (0,0))/\wx.ownsRow w9.heap.size 3 1 (.slice aS i cS) i (hh.map (Value.int .i64))))
       case atStart=>exact⟨0,[],none,0,rfl,nZ _,rfl,hid ⟨rfl,Kc.refl _ _,C4.out,bG _ _ _ _⟩⟩
       case round=>
        obtain⟨i,hh,aS,cS,rfl,q7,q3,HI⟩:=hrel;obtain⟨hl,f8,r7,f4⟩:=HI.out;have HL:=hid hl;have r8:=hid f8;have G3:=hid r7;have l0:=hid f4;have L8:=zv C4.out;have C5:Kc g O wr:=⟨f8.os.trans HQ.out.kc.os,f8.tape.trans HQ.out.kc.tape,f8.output.trans HQ.out.kc.output,bQ HQ.out.kc.size f8.size,λb hb G4=>(f8.block b Oo Oo).trans (HQ.out.kc.block b hb G4)⟩;have r9:=hid C5;have L9:=f8.size;obtain⟨G5,G6,d2,G7,G8,G9,df⟩:=bx6 r7;clear HI hl f8 r7 f4 C5;by_cases p7:i < nH
        ·have q1:(i:Int) < (nH:Int):=Oo
         obtain⟨bH,oH,eH,H0⟩:∃bH oH,aH=some ⟨bH,oH,none⟩/\wr.cell? ⟨bH,oH+i,none⟩=some (.int .i64 (hs.getD i 0)):=by
          obtain⟨a',c',e',h'⟩:=(g6.out wr r9.out).h;cases e'
          rcases h' with h'|⟨b,o,eb,h'⟩
          ·omega
          ·exact⟨b,o,eb,h' i p7⟩
         subst eH
         have d7:-1<=hs.getD i 0/\hs.getD i 0<=1000:=by
          rw[gD];cases e:hs[i]? with
          |none=>exact⟨Dd,Dd⟩
          |some x=>exact i9.out.2 x (List.mem_of_getElem? e)
         generalize hs.getD i 0=pj at *
         have HF:Hid (∀ob w3,(wr.alloc ob).grownBy w3 (Value.slice aS i cS).ownBlock->w3.heap[r]?=wr.heap[r]?/\w3.cell? ⟨r,2,none⟩=some (.slice aS i cS)/\w3.frozen? ⟨r,2,none⟩=false):=hid λob w3 hg=>by
          have hk:w3.heap[r]?=wr.heap[r]?:=(hg.block _ (by simp;omega) (λe=>by have:=(l0.out.lt _ e.symm).1;omega)).trans (Below.heap_alloc _ _ _ Oo);exact⟨hk,(bF (w:=wr) (a:=⟨r,2,none⟩) hk).trans d2,(World.frozen?_of_block (w:=wr) (a:=⟨r,2,none⟩) hk).trans (df 2)⟩
         clear df G5 G6 G7 G8 G9;go_upto_if 142 with fail
         go_cut [19] from 139 to 150 (λv wx=>∃h:Int,v=.int .i64 h/\wx=wr)
         case first=>
          by_cases F8:0<=pj
          ·go_wp2_with fail
           go_meet;exact⟨_,rfl,rfl⟩
          ·have C0:pj < 0:=Oo;go_wp2_with fail
           go_meet;exact⟨_,rfl,rfl⟩
         case rest=>
         obtain⟨hv,rfl,j6⟩:=hcut;subst j6;clear H0 d7;go_wp2_with (first|(at_builtin;refine wpList_append_lies _ rfl _ _ 25 rfl w9.heap.size 3 i0 (.int .i64 0) 1 8 Tryz.underlying25 hi e5 e6 e7 rfl Dd (.slice aS i cS) i _ rfl (l0.out.alloc _) ⟨wc.heap.size,0,none⟩ 1 1 [.int .i64 hv] rfl rfl (zJ _ _ _) (λu hu=>by simp at hu;subst hu;rfl) Dd (by unfold maxLen;omega) Oo (by simp;omega) _ rfl ?_;intro g8 a8 w8 M I a7 h7;obtain⟨k0,H1,f2⟩:=HF.out _ _ I)|fail)
         have k1:Below w9.heap.size wc w8:=((bM _ _).alloc Oo _).grown I (by simp;omega) (λc hc=>(l0.out.lt c hc).1)
         have HZ:Hid ((hh++[hv]).length=i+1/\Kc r w9 (w8.setCell ⟨r,2,none⟩ (.slice (some ⟨g8,0,none⟩) (i+1) a8))/\(w8.setCell ⟨r,2,none⟩ (.slice (some ⟨g8,0,none⟩) (i+1) a8)).heap[r]?=some (.cells #[.slice aQ (j+1) cQ,.slice aR (j+1) cR,.slice (some ⟨g8,0,none⟩) (i+1) a8,.slice none 0 0,.int .i64 0,.int .i64 0] 30 (0,0))/\(w8.setCell ⟨r,2,none⟩ (.slice (some ⟨g8,0,none⟩) (i+1) a8)).ownsRow w9.heap.size 3 1 (.slice (some ⟨g8,0,none⟩) (i+1) a8) (i+1) ((hh++[hv]).map (Value.int .i64))):=hid ⟨by simp[HL.out],(r8.out.up k1).set 2 _,by rw[bJ _ _ _ _ _ _ (k0.trans G3.out)];rfl,by
          rw[mA];exact qA M λc hc=>bE _ _ _ _ (by have:=(M.lt c hc).1;show c≠r;omega)⟩
         clear k1 k0 H1 f2 M I a7 h7 HF d2;go_roundg (nH - (i+1))
         case measure=>omega
         case rel=>exact⟨i+1,_,_,_,Gg,Oo,rfl,HZ⟩
        ·obtain rfl:i=nH:=Oo;have q1:¬(i:Int) < (i:Int):=Oo;have p4:Rdr wr g a n cap (k+10+1+1+1):=HQ.out.rd.kcp r8.out Oo (λb o e h0=>by have:=b9.out b o e h0;omega);have l2:=hid (V.out.turn r9.out p4);obtain⟨a5,d6,m7⟩:=l2.out.set6 (.slice aQ (j+1) cQ) (.slice aR (j+1) cR) (.slice aS i cS) (.slice none 0 0) (.int .i64 0) (.int .i64 0);obtain⟨c0,c1,c2,c3,c4,c5,cf⟩:=l2.out.cells;have l8:=cf 0;have l9:=cf 1;have v5:=cf 2;have m4:=cf 3;have m5:=cf 4;have m6:=cf 5;have M0:¬r=p:=Oo;have M1:¬p=r:=Oo;clear cf df p4;go_wp2_with fail
         go_meet;refine hid ⟨_,_,_,_,_,_,_,_,_,_,_,_,0,0,uq,bag.drop z::bs,pq,hh,l2.out.kc.up (a5.mono (Nat.le_succ _)),(l2.out.rd.above (a5.mono (Nat.le_succ _)) f9 b7.out).mono Oo,f9,b7.out,(a5.block _ (Nat.lt_succ_self _)).trans l2.out.b6,A2,d6,λX hX=>?_⟩;have s4:∀c',w.heap.size+1<=c'->c' < wr.heap.size->c'≠p->X.heap[c']?=wr.heap[c']?:=λc' h1 h2 h3=>(hX c' h1 (bV h2 a5.size) h3).trans (m7 c' h3)
         refine HQ.out.plan (λc' h1 h2 h3=>(s4 c' Oo Oo Oo).trans (r8.out.block c' h2 h3)) (V.out.pl X λc' h1 h2 h3=>(s4 c' h1 Oo h3).trans (r9.out.block c' h2 Oo)) (B:=w9.heap.size) (by
          rw[HL.out]
          exact qA l0.out λc' H2=>by
           have:=l0.out.lt c' H2;exact s4 c' Oo Oo Oo) (by rw[List.length_drop,hm,A7.out]) (qCg k4.1 z) (by rw[List.length_drop,<-A7.out];omega) (by rw[h5.out,d8.out]) (by rw[o3.out,d8.out]) (by rw[HL.out];exact hel.symm) (by rw[<-d8.out];exact x7) (λi' q7=>B4.out i' (by rw[d8.out];exact q7)) B5.out
    ·have t1:¬(nB:Int) < 12:=Oo;clear g4 K n8;go_wp2_with fail
     go_meet;exact hid ⟨_,_,_,_,_,_,_,_,_,_,_,_,_,_,_,_,_,_,a6.out.turn (Kc.refl _ _) (a6.out.rd.mono Oo)⟩
   ·have j0:((z:Int) == 0)=false:=by simp;omega
    have j1:((z:Int) == 1)=false:=by simp;omega
    have j2:¬(z:Int)=0:=Oo;have j3:¬(z:Int)=1:=Oo;go_wp2_with fail
    go_meet;exact hid ⟨_,_,_,_,_,_,_,_,_,_,_,_,_,_,_,_,_,_,a6.out.turn (Kc.refl _ _) (a6.out.rd.mono Oo)⟩
 case rest=>
 clear a6;generalize wc=O at *;obtain⟨aB,nB,cB,aP,nP,cP,aH,nH,cH,aW,nW,cW,x,y,us,bs,ps,hs,hD⟩:=hcut.out;have HD:=hid hD;clear hcut;obtain⟨c0,c1,c2,c3,c4,c5,cf⟩:=hD.cells;have K:=hD.now
 have KW:Hid (Cl 41 #[.slice aB nB cB,.slice aE ne cE] O λe w'=>∃a1 c1 X Y,e=.returned (.tuple #[.slice a1 bs.length c1,.agg #[.int .i64 X,.int .i64 Y]])/\(∃ys,w'.ownsRow O.heap.size 28 2 (.slice a1 bs.length c1) bs.length ys/\∀u∈ys,u.oneCell'=true)/\Bl O w'):=hid (by
  refine(jo O _ _ bs es K.b.iss (by have:=K.bl;omega) (l4.out O hD.kc) p8.out p9.out (λi hi=>K.good _ (by rw[gD,bC hi];exact gM hi))).mono ?_;rintro e w' ⟨v,rfl,ho,hb⟩;obtain⟨a1,c1,rfl⟩:=qW ho;refine⟨a1,c1,_,_,rfl,⟨_,ho,λu hu=>?_⟩,hb⟩;unfold rcs at hu;obtain⟨pr,-,hu⟩:=List.mem_flatMap.1 hu;simp at hu;rcases hu with rfl|rfl <;> rfl)
 clear K hD;clear c1 c2 c3 c4 c5 cf;go_upto_region 43 with (first|(go_at_call 41;refine KW.out.mono ?_;rintro e w6 ⟨a1,h9,X,Y,rfl,C6,a5⟩)|fail)
 have C7:Bl O (w6.alloc (.cells #[.int .i64 X,.int .i64 Y] 28)):=a5.alloc a5.size _;have s5:=hid (HD.out.bel C7);have r3:=HD.out.lt
 have n5:Hid (∃ys,(w6.alloc (.cells #[.int .i64 X,.int .i64 Y] 28)).ownsRow O.heap.size 28 2 (.slice a1 bs.length h9) bs.length ys/\∀u∈ys,u.oneCell'=true):=hid (by
  obtain⟨ys,h1,h2⟩:=C6;exact⟨ys,h1.alloc _,h2⟩)
 have s6:=heap_alloc_new w6 (.cells #[.int .i64 X,.int .i64 Y] 28);have r0:(w6.alloc (.cells #[.int .i64 X,.int .i64 Y] 28)).cell? ⟨w6.heap.size,0,none⟩=some (.int .i64 X):=by rw[cell_of_row _ _ _ _ _ _ s6];rfl
 have r1:(w6.alloc (.cells #[.int .i64 X,.int .i64 Y] 28)).cell? ⟨w6.heap.size,1,none⟩=some (.int .i64 Y):=by rw[cell_of_row _ _ _ _ _ _ s6];rfl
 have H3:¬w6.heap.size=p:=by have:=a5.size;omega
 have x3:¬p=w6.heap.size:=Oo;clear s6 C6 a5 C7 KW HD c0;generalize w6.alloc (.cells #[.int .i64 X,.int .i64 Y] 28)=w7 at *;obtain⟨c0,c1,c2,c3,c4,c5,cf⟩:=s5.out.cells;have m4:=cf 3;have m5:=cf 4;have m6:=cf 5;generalize w6.heap.size=p6 at *;go_upto_region 45 with fail
 have o5:=hid (s5.out.put3 (.slice a1 bs.length h9) X Y)
 have C8:Hid (∃ys,(((w7.setCell ⟨p,3,none⟩ (.slice a1 bs.length h9)).setCell ⟨p,4,none⟩ (.int .i64 X)).setCell ⟨p,5,none⟩ (.int .i64 Y)).ownsRow O.heap.size 28 2 (.slice a1 bs.length h9) bs.length ys/\∀u∈ys,u.oneCell'=true):=hid (by
  obtain⟨ys,h1,h2⟩:=n5.out;refine⟨ys,qA h1 λj hj=>?_,h2⟩;have:=(h1.lt j hj).1;iterate 3 rw[bE _ _ _ _ (show j≠p by omega)])
 clear n5 s5 c0 c1 c2 c3 c4 c5 cf m4 m5 m6 r0 r1 H3 x3 r3;generalize ((w7.setCell ⟨p,3,none⟩ (.slice a1 bs.length h9)).setCell ⟨p,4,none⟩ (.int .i64 X)).setCell ⟨p,5,none⟩ (.int .i64 Y)=w8 at *;obtain⟨c0,c1,c2,c3,c4,c5,cf⟩:=o5.out.cells;have K:=o5.out.now;obtain⟨ys,C9,D0⟩:=C8.out;have KC:Hid (Cl 42 #[.agg #[.slice aB nB cB,.slice aP nP cP,.slice aH nH cH,.slice a1 bs.length h9,.int .i64 X,.int .i64 Y]] w8 (CpE w8)):=hid (YI w8 _ _ _ _ X Y bs ps hs O.heap.size bs.length ys K.b.iss K.p K.h C9 D0 (by have:=K.bl;omega) (by have:=K.bl;have:=K.pl;omega) (by have:=K.hl;have:=xH p9.out;omega) (by have:=K.bl;omega) (λb hb=>by have h1:=K.good b hb;have:=xq h1.1.set;omega));clear K C9 D0 C8 cf;obtain⟨nb,D1⟩:∃nb,nb=bs.length:=⟨_,rfl⟩;rw[<-D1]at KC c3;clear D1;go_wp2_with (first|(go_at_call 42;refine KC.out.mono ?_;rintro e w9 ⟨⟨a0,n0,m0,a9,n1,m1,a2,n2,m2,a3,n3,m3,X',Y',rfl⟩,H4⟩;have l3:=hid (o5.out.bel H4);obtain⟨z0,z1,z2,z3,z4,z5,zf⟩:=bx6 l3.out.b6;have H5:=zf 0;have H6:=zf 1;have H7:=zf 2;have H8:=zf 3;have H9:=zf 4;have I0:=zf 5;clear zf)|fail)
 obtain⟨hF,hX⟩:=l3.out.fin (.slice a0 n0 m0) (.slice a9 n1 m1) (.slice a2 n2 m2) (.slice a3 n3 m3) (.int .i64 X') (.int .i64 Y');have I1:=l3.out.kc.up hF;have I2:=l3.out.rd.above hF f9 b7.out;clear z0 z1 z2 z3 z4 z5 H5 H6 H7 H8 H9 I0 hF l3 o5;obtain⟨y0,y1,y2,y3,y4,y5,-⟩:=bx6 hX;refine bodyPost_ret (v:=.agg #[.slice a0 n0 m0,.slice a9 n1 m1,.slice a2 n2 m2,.slice a3 n3 m3,.int .i64 X',.int .i64 Y']) (by simp only[results,Tryz.results14];simp[go_sem,y0,y1,y2,y3,y4,y5]) rfl ?_;exact⟨⟨_,_,_,_,_,_,_,_,_,_,_,_,_,_,rfl⟩,I1,I2.mono Oo⟩
end Go.Proofs.YtkaipapdlnojiaaGreat
