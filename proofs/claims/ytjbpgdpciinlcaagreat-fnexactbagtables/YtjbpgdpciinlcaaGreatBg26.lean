import Derived.Test.YtjbpgdpciinlcaaGreatBg25
set_option maxHeartbeats 40000000
set_option maxRecDepth 1000000
namespace Go.Proofs.YtjbpgdpciinlcaaGreat
open Go.RowKit
variable {es:List (List Int)}{bag l:List Int}{e i k r:Nat}{u v x y z:Value}{w:World}
def f5(x y z u v:Value):Nat->Value
 |0=>x
 |1=>y
 |2=>z
 |3=>u
 |_=>v
theorem ArrAt.five(h:ArrAt w k 5 (f5 x y z u v)):w.cell? ⟨k,0,none⟩=some x/\w.cell? ⟨k,1,none⟩=some y/\w.cell? ⟨k,2,none⟩=some z/\w.cell? ⟨k,3,none⟩=some u/\w.cell? ⟨k,4,none⟩=some v:=⟨h.cell 0 (by omega),h.cell 1 (by omega),h.cell 2 (by omega),h.cell 3 (by omega),h.cell 4 (by omega)⟩
theorem ArrAt.frees{f:Nat->Value}(h:ArrAt w k 5 f):w.frozen? ⟨k,0,none⟩=false/\w.frozen? ⟨k,1,none⟩=false/\w.frozen? ⟨k,2,none⟩=false/\w.frozen? ⟨k,3,none⟩=false/\w.frozen? ⟨k,4,none⟩=false:=⟨h.free 0 (by omega),h.free 1 (by omega),h.free 2 (by omega),h.free 3 (by omega),h.free 4 (by omega)⟩
theorem ArrAt.five_set(h:ArrAt w k 5 (f5 x y z u v))(x' y' z' u' v':Value):
 ArrAt (((((w.setCell ⟨k,0,none⟩ x').setCell ⟨k,1,none⟩ y').setCell ⟨k,2,none⟩ z').setCell ⟨k,3,none⟩ u').setCell ⟨k,4,none⟩ v') k 5 (f5 x' y' z' u' v'):=by
 have:=((((h.set (i:=0) (by omega) x').set (i:=1) (by omega) y').set (i:=2) (by omega) z').set (i:=3) (by omega) u').set (i:=4) (by omega) v';refine⟨fun j hj=>?_,this.free⟩;rw[this.cell j hj];match j,hj with
 |0,_=>rfl
 |1,_=>rfl
 |2,_=>rfl
 |3,_=>rfl
 |4,_=>rfl
theorem xz(bag:List Int)(es:List (List Int)):(qM bag es).length=bag.length:=by simp[qM]
theorem qAp(bag:List Int)(es:List (List Int)):(yJ bag es).length=es.length:=by simp[yJ]
theorem vi(bag:List Int)(es:List (List Int))(h:i < bag.length):(qM bag es).getD i []=plN (fun k=>decide (bag.getD i 0∈es.getD k [])) es.length:=by
 unfold qM;rw[gD,bJ,gD (l:=bag),gE h];rfl
theorem kV(bag:List Int)(es:List (List Int))(h:i < es.length):(yJ bag es).getD i []=plN (fun k=>decide (bag.getD k 0∈es.getD i [])) bag.length:=by
 unfold yJ;rw[gD,bJ,gD (l:=es),gE h];rfl
theorem XO(p:Nat->Bool)(k:Nat):(plN p k).length<=k:=by
 have:=List.length_filter_le p (List.range k);rw[List.length_range]at this;exact this
theorem yt{p:Nat->Bool}{j:Nat}:j∈plN p k↔j < k/\p j=true:=by
 unfold plN;rw[List.mem_filter,List.mem_range]
theorem qAq(hr:r < bag.length)(he:e < es.length):inc (qM bag es) r e=if bag.getD r 0∈es.getD e [] then 1 else 0:=by
 unfold inc;rw[vi bag es hr];by_cases h:bag.getD r 0∈es.getD e []
 ·rw[if_pos h,if_pos (yt.2 ⟨he,decide_eq_true h⟩)]
 ·rw[if_neg h,if_neg (fun h2=>h (of_decide_eq_true (yt.1 h2).2))]
theorem qBp(hr:r < es.length)(he:e < bag.length):inc (yJ bag es) r e=if bag.getD e 0∈es.getD r [] then 1 else 0:=by
 unfold inc;rw[kV bag es hr];by_cases h:bag.getD e 0∈es.getD r []
 ·rw[if_pos h,if_pos (yt.2 ⟨he,decide_eq_true h⟩)]
 ·rw[if_neg h,if_neg (fun h2=>h (of_decide_eq_true (yt.1 h2).2))]
theorem YB(h:xc bag es=true){v:Nat}(hv:v < bag.length):∃e,e < es.length/\bag.getD v 0∈es.getD e []:=by
 unfold xc at h;have:=aT.1 h (bag.getD v 0) (xY hv);obtain⟨x,hx,hm⟩:=List.any_eq_true.1 this;obtain⟨e,he,rfl⟩:=List.mem_iff_getElem.1 hx;refine⟨e,he,?_⟩;rw[gD (l:=es),gE he];exact of_decide_eq_true hm
theorem yu(h:qP l=true)(hi:i < l.length):0<=l.getD i 0/\l.getD i 0 < 6/\(i=0∨l.getD (i - 1) 0 < l.getD i 0):=by
 have:=aT.1 h i (List.mem_range.2 hi);unfold zp at this;simp only[Bool.and_eq_true,Bool.or_eq_true,decide_eq_true_eq]at this;exact⟨this.1.1,this.1.2,this.2⟩
theorem Jn{l:List Int}(h:qP l=true):∀i,i < l.length->(i:Int)<=l.getD i 0
 |0,hi=>by have:=(yu h hi).1;simpa using this
 |i+1,hi=>by
  have h1:=Jn h i (by omega);rcases (yu h hi).2.2 with h2|h2
  ·omega
  ·rw[show i+1 - 1=i by omega]at h2;omega
theorem jU(h:qP l=true):l.length<=6:=by
 rcases Nat.lt_or_ge 6 l.length with h1|h1
 ·have h2:=Jn h 6 h1;have h3:=(yu h h1).2.1;omega
 ·exact h1
theorem yW(h:zL es=true):es.length<=7:=by
 unfold zL at h;simp only[Bool.and_eq_true,decide_eq_true_eq]at h;exact h.1
theorem U8(w:World)(vb ve:Value)(bag:List Int)(es:List (List Int))(hb:IS w vb bag)(h:ISS w ve es)(hlb:bag.length<=1099511627776)(hl:qQ es)(h1:qP bag=true)(h2:zL es=true)(h3:xc bag es=true):
 Cl 82 #[vb,ve] w fun e w'=>∃x y vW vD,e=.returned (.agg #[.bool true,.int .i64 (Cov.sm es.length x).num,.int .i64 (Cov.sm es.length x).den,vW,vD])/\zF bag.length es.length (inc (qM bag es)) x/\ZI es.length bag.length (inc (yJ bag es)) y/\
  Parts es.length x/\Parts bag.length y/\w'.ownsRow w.heap.size 37 2 vW (prs es.length x).length (rcs (prs es.length x))/\w'.ownsRow w.heap.size 37 2 vD (prs bag.length y).length (rcs (prs bag.length y))/\(∀g,vW.ownBlock=some g->vD.ownBlock≠some g)/\Bl w w':=by
 have hb6:=jU h1;have he7:=yW h2;have hcl:=xz bag es;have hpl:=qAp bag es
 have SC:Hid (∀W vr,RowsAt W vr (qM bag es)->Cl 95 #[.agg #[.int .i64 es.length,vr,.bool true]] W fun e w'=>∃g x,e=.returned (.slice (some ⟨g,0,none⟩) es.length es.length)/\FrAt w' g es.length x/\zF bag.length es.length (inc (qM bag es)) x/\Parts es.length x/\W.heap.size<=g/\g < w'.heap.size/\Bl W w'):=hid (fun W vr hr=>by
  have:=Jd W es.length vr (qM bag es) he7 (by omega) hr (fun i hi=>by rw[vi bag es (by omega)];have:=XO (fun k=>decide (bag.getD i 0∈es.getD k [])) es.length;omega) (fun i hi j hj=>by rw[vi bag es (by omega)]at hj;exact(yt.1 hj).1) (fun r hr=>by
   obtain⟨e,he,hm⟩:=YB h3 (v:=r) (by omega);exact⟨e,he,by rw[qAq (by omega) he,if_pos hm]⟩)
  rw[hcl]at this;exact this)
 have SP:Hid (∀W vr,RowsAt W vr (yJ bag es)->Cl 95 #[.agg #[.int .i64 bag.length,vr,.bool false]] W fun e w'=>∃g x,e=.returned (.slice (some ⟨g,0,none⟩) bag.length bag.length)/\FrAt w' g bag.length x/\ZI es.length bag.length (inc (yJ bag es)) x/\Parts bag.length x/\W.heap.size<=g/\g < w'.heap.size/\Bl W w'):=hid (fun W vr hr=>by
  have:=qAY W bag.length vr (yJ bag es) hb6 (by omega) hr (fun i hi=>by rw[kV bag es (by omega)];have:=XO (fun k=>decide (bag.getD k 0∈es.getD i [])) bag.length;omega) (fun i hi j hj=>by rw[kV bag es (by omega)]at hj;exact(yt.1 hj).1) (fun e he=>by
   obtain⟨r,hr,hm⟩:=YB h3 (v:=e) (by omega);exact⟨r,by omega,by rw[qBp hr (by omega),if_pos hm]⟩)
  rw[hpl]at this;exact this)
 have CP:Hid (∀W,IS W vb bag->ISS W ve es->Cl 96 #[vb,ve] W fun e w'=>∃vr,e=.returned (.agg #[.int .i64 es.length,vr,.bool true])/\RowsAt w' vr (qM bag es)/\Bl W w'):=hid (fun W hW hW'=>(kl W vb ve bag es hW hW' (by omega) hl).mono (by
  rintro e w' ⟨vr,vs,rfl,hp,hb'⟩;rw[Jc]at hp;exact⟨vr,rfl,J6 hp,hb'⟩))
 have PP:Hid (∀W,IS W vb bag->ISS W ve es->Cl 97 #[vb,ve] W fun e w'=>∃vr,e=.returned (.agg #[.int .i64 bag.length,vr,.bool false])/\RowsAt w' vr (yJ bag es)/\Bl W w'):=hid (fun W hW hW'=>(jo W vb ve bag es hW hW' (by omega) hl (by omega)).mono (by
  rintro e w' ⟨vr,vs,rfl,hp,hb'⟩;rw[qAX]at hp;exact⟨vr,rfl,J6 hp,hb'⟩))
 have HB:=hid hb;have HE:=hid h;obtain⟨a,cap,rfl,-⟩:=hb;obtain⟨a',cap',rfl,-⟩:=h;have hA:Bl w (w.alloc (.cells #[.bool false,.int .i64 0,.int .i64 0,.slice none 0 0,.slice none 0 0] 104)):=(bI _ _).alloc (nR _) _;have hs:w.heap.size < (w.alloc (.cells #[.bool false,.int .i64 0,.int .i64 0,.slice none 0 0,.slice none 0 0] 104)).heap.size:=by simp
 have hc:ArrAt (w.alloc (.cells #[.bool false,.int .i64 0,.int .i64 0,.slice none 0 0,.slice none 0 0] 104)) w.heap.size 5 (f5 (.bool false) (.int .i64 0) (.int .i64 0) (.slice none 0 0) (.slice none 0 0)):=qt w 5 (f5 (.bool false) (.int .i64 0) (.int .i64 0) (.slice none 0 0) (.slice none 0 0)) 104;have K1:Hid (∀W,IS W (.slice a bag.length cap) bag->Cl 75 #[.slice a bag.length cap] W fun e w'=>e=.returned (.bool true)/\w'=W):=hid (fun W hW=>by have:=zP W _ bag hW hlb;rw[h1]at this;exact this);have K2:Hid (∀W,ISS W (.slice a' es.length cap') es->Cl 77 #[.slice a' es.length cap'] W fun e w'=>e=.returned (.bool true)/\w'=W):=hid (fun W hW=>by have:=jB W _ es hW hl;rw[h2]at this;exact this);have K3:Hid (∀W,IS W (.slice a bag.length cap) bag->ISS W (.slice a' es.length cap') es->Cl 93 #[.slice a bag.length cap,.slice a' es.length cap'] W fun e w'=>e=.returned (.bool true)/\Bl W w'):=hid (fun W hW hW'=>by have:=YW W _ _ bag es hW hW' hlb hl;rw[h3]at this;exact this);clear h1 h2 h3 hcl hpl hl;go_enter Tryz.func82,Tryz.ntmps82
 go_upto_region 1 with fail
 generalize w.alloc (.cells #[.bool false,.int .i64 0,.int .i64 0,.slice none 0 0,.slice none 0 0] 104)=W at *;go_upto_region 3 with (first|(go_at_call 75;refine(K1.out _ (HB.out.below hA)).mono ?_;rintro e w' ⟨rfl,hw'⟩;subst w')|(go_at_call 77;refine(K2.out _ (HE.out.below hA)).mono ?_;rintro e w' ⟨rfl,hw'⟩;subst w')|(go_at_call 93;refine(K3.out _ (HB.out.below hA) (HE.out.below hA)).mono ?_;rintro e w9 ⟨rfl,hb9⟩))
 have hA9:Bl w w9:=bt hA hb9;have hc9:=hc.below (by omega) hb9;have hs9:w.heap.size < w9.heap.size:=bM hs hb9.size;clear K1 K2 K3 hc hb9 hA hs;go_upto_region 4 with (first|(go_at_call 96;refine(CP.out _ (HB.out.below hA9) (HE.out.below hA9)).mono ?_;rintro e w1 ⟨vr,rfl,hr1,hb1⟩)|(go_at_call 95;refine(SC.out _ _ hr1).mono ?_;rintro e w2 ⟨g,x,rfl,hF,hX,hP,hg1,hg2,hb2⟩)|(go_at_call 94;refine(YN _ _ _ x he7 (J7 hF) hP).mono ?_;rintro e w3 ⟨vW,rfl,hoW,hb3⟩))
 have hA3:Bl w w3:=bt (bt (bt hA9 hb1) hb2) hb3;have hc3:=((hc9.below (by omega) hb1).below (by omega) hb2).below (by omega) hb3;have hsz3:w.heap.size+1<=w2.heap.size:=bK hs9 (bt hb1 hb2).size;have hs93:w9.heap.size<=w3.heap.size:=(bt (bt hb1 hb2) hb3).size;have HX:=hid hX;have HP:=hid hP;clear CP SC hr1 hF hX hP hg1 hg2 hb1 hb2 hb3 hA9 hc9;go_upto_region 5 with (first|(go_at_call 97;refine(PP.out _ (HB.out.below hA3) (HE.out.below hA3)).mono ?_;rintro e w4 ⟨vr,rfl,hr1,hb4⟩)|(go_at_call 95;refine(SP.out _ _ hr1).mono ?_;rintro e w5 ⟨g,y,rfl,hF,hY,hQ,hg1,hg2,hb5⟩)|(go_at_call 94;refine(YN _ _ _ y (by omega) (J7 hF) hQ).mono ?_;rintro e w6 ⟨vD,rfl,hoD,hb6'⟩))
 have hbx:Bl w3 w6:=bt (bt hb4 hb5) hb6';have hA6:Bl w w6:=bt hA3 hbx;have hc6:=hc3.below (by omega) hbx;have hoW6:=qB hoW hbx
 have hne:∀q,vW.ownBlock=some q->vD.ownBlock≠some q:=fun q h1 h2=>by
  have l1:=(hoW.lt q h1).2;have l2:=(hoD.lt q h2).1;have l3:=(bt hb4 hb5).size;omega
 have hoWb:=qF hoW6 hsz3;have hoDb:=qF (B':=w.heap.size+1) hoD (bK (bK hs9 hs93) (bt hb4 hb5).size);have HY:=hid hY;have HQ:=hid hQ;have HNE:=hid hne;clear PP SP hr1 hF hY hQ hg1 hg2 hb4 hb5 hb6' hA3 hc3 hoW hoD hbx hoW6 hne;have KSu:Hid (∀W,IR W vW (prs es.length x)->Cl 98 #[vW] W fun e w'=>e=.returned (.agg #[.int .i64 (Cov.sm es.length x).num,.int .i64 (Cov.sm es.length x).den])/\Bl W w'):=hid (fun W hW=>qCh W vW es.length x he7 hW HP.out);have HIR:=hid (kW hoWb);obtain⟨aW,cW,eW,-⟩:=kW hoWb;obtain⟨aD,cD,eD,-⟩:=kW hoDb;have HOW:=hid hoWb;have HOD:=hid hoDb;clear hoWb hoDb;subst eW eD;go_wp2_with (first|(go_at_call 98;refine(KSu.out _ HIR.out).mono ?_;rintro e w7 ⟨rfl,hb7⟩;have hc7:=hc6.below (by omega) hb7;obtain⟨c0,c1,c2,c3,c4⟩:=hc7.five;obtain⟨d0,d1,d2,d3,d4⟩:=hc7.frees))
 have hz:=hc7.five_set (.bool true) (.int .i64 (Cov.sm es.length x).num) (.int .i64 (Cov.sm es.length x).den) (.slice aW (prs es.length x).length cW) (.slice aD (prs bag.length y).length cD);obtain⟨r0,r1,r2,r3,r4⟩:=hz.five;have hA7:Bl w w7:=bt hA6 hb7
 have hlow:∀(v:Value) n xs,w7.ownsRow (w.heap.size+1) 37 2 v n xs->(((((w7.setCell ⟨w.heap.size,0,none⟩ (.bool true)).setCell ⟨w.heap.size,1,none⟩ (.int .i64 (Cov.sm es.length x).num)).setCell ⟨w.heap.size,2,none⟩ (.int .i64 (Cov.sm es.length x).den)).setCell ⟨w.heap.size,3,none⟩ (.slice aW (prs es.length x).length cW)).setCell ⟨w.heap.size,4,none⟩ (.slice aD (prs bag.length y).length cD)).ownsRow w.heap.size 37 2 v n xs:=fun v n xs hv=>qF (qC hv (fun g hg=>by
  have:=(hv.lt g hg).1;rw[bD _ _ _ _ (by show g≠w.heap.size;omega),bD _ _ _ _ (by show g≠w.heap.size;omega),bD _ _ _ _ (by show g≠w.heap.size;omega),bD _ _ _ _ (by show g≠w.heap.size;omega),bD _ _ _ _ (by show g≠w.heap.size;omega)])) (by omega)
 refine bodyPost_ret (v:=.agg #[.bool true,.int .i64 (Cov.sm es.length x).num,.int .i64 (Cov.sm es.length x).den,.slice aW (prs es.length x).length cW,.slice aD (prs bag.length y).length cD]) (by simp[results,Tryz.results82,go_sem,r0,r1,r2,r3,r4]) rfl ⟨x,y,_,_,rfl,HX.out,HY.out,HP.out,HQ.out,hlow _ _ _ (qB HOW.out hb7),hlow _ _ _ (qB HOD.out hb7),HNE.out,?_⟩;exact((((hA7.setCell (nR _) _).setCell (nR _) _).setCell (nR _) _).setCell (nR _) _).setCell (nR _) _
end Go.Proofs.YtjbpgdpciinlcaaGreat
