import Derived.Test.YtkaipapdlnojiaaGreatWq41
set_option maxHeartbeats 40000000
set_option maxRecDepth 1000000
namespace Go.Proofs.YtkaipapdlnojiaaGreat
open Go.RowKit Meet
variable {xv:Int}{p:List Int}{bs xs:List Value}{c c' g g' k n nT s:Nat}{e:TypeId}{v x y:Value}{A X Y:World}
theorem qFf(h:Below X.drew.heap.size X.drew Y):Bl X Y:=⟨h.os,h.tape,h.output,h.size,h.block⟩
theorem qC9{t:TypeId}(I:k=X.heap.size)(h:Below (X.alloc (.cells #[v] t)).heap.size (X.alloc (.cells #[v] t)) Y):∀W,Bl Y W->∀j u,[v][j]?=some u->W.cell? ((⟨k,0,none⟩:Addr).add j)=some u:=λ_ K=>ZI I (bt h K)
theorem qAo(I:k=X.heap.size)(h:Below (X.alloc (.cells #[.slice none 0 0,.slice none 0 0] 120)).heap.size (X.alloc (.cells #[.slice none 0 0,.slice none 0 0] 120)) Y):BrX Y k (.slice none 0 0) (.slice none 0 0):=by
 subst I;exact(BrX.new X _ _).below h
theorem grB(h:Bl A X)(I:X.ownsRow A.heap.size e s v n xs)(K:X.grownBy Y v.ownBlock):Bl A Y:=h.grown K h.size λk M=>(I.lt k M).1
theorem BrX.gr{B:Nat}(h:BrX X k x y)(I:X.ownsRow B e s v n xs)(K:e≠120)(M:X.grownBy Y v.ownBlock):BrX Y k x y:=(M.block k h.lt (own_ne I ⟨_,h⟩ K)).trans h
theorem WiE.late(K:X.ownsRow A.heap.size 3 1 (.slice (some ⟨g,0,none⟩) (p.length+1) c) (p.length+1) (p.map (Value.int .i64)++[.int .i64 xv]))(M:X.ownsRow A.heap.size 123 1 (.slice (some ⟨g',0,none⟩) nT c') nT bs)(I:Bl A X):
 WiE A p xv nT bs X.heap.size (X.alloc (.cells #[.slice (some ⟨g,0,none⟩) (p.length+1) c,.slice (some ⟨g',0,none⟩) nT c'] 120)) g c g' c':=
 ⟨BrX.new X _ _,by rw[mA];exact K.alloc _,M.alloc _,qE I _,I.size⟩
theorem WiE.early(M:X.ownsRow A.heap.size 3 1 (.slice (some ⟨g,0,none⟩) (p.length+1) c) (p.length+1) (p.map (Value.int .i64)++[.int .i64 xv]))(O:X.ownsRow A.heap.size 123 1 (.slice (some ⟨g',0,none⟩) nT c') nT bs)(U:Bl A X)(I:BrX X k x y)(K:A.heap.size<=k):
 WiE A p xv nT bs k ((X.setCell ⟨k,0,none⟩ (.slice (some ⟨g,0,none⟩) (p.length+1) c)).setCell ⟨k,1,none⟩ (.slice (some ⟨g',0,none⟩) nT c')) g c g' c':=
 ⟨I.set _ _,by rw[mA];exact yZ M I Dd,yZ O I Dd,(U.setCell K _).setCell K _,K⟩
theorem qAp(w:World)(B1 B2 bb nT cb cu cc:Nat)(vp vt:Value)(p ts:List Int)(bs:List Value)(xv:Int)(y:Nat->Nat)
 (hp:w.ownsRow B1 3 1 vp p.length (p.map (Value.int .i64))) (k8:p.length<=1000) (hb:w.ownsRow B2 123 1 (.slice (some ⟨bb,0,none⟩) nT cb) nT bs) (e8:∀u∈bs,u.oneCell'=true) (j3:0 < nT) (hT:nT<=1000)
 (ht:IS w vt ts) (hn:ts.length<=1000) (f9:∀j,j < ts.length->0<=ts.getD j 0/\ts.getD j 0 < nT)
 (g2:∀W,Bl w W->∀j,j < ts.length->Cl 152 #[.pointer (some ⟨cu,j*2,none⟩)] W λe w'=>e=.returned (.pointer (some ⟨y j,0,none⟩))/\∃d,w'=W.drewN d):
 Cl 135 #[.agg #[vp,.slice (some ⟨bb,0,none⟩) nT cb],.int .i64 xv,vt,.slice (some ⟨cu,0,none⟩) ts.length cc] w λe w'=>∃g c g' c',e=.returned (.agg #[.slice (some ⟨g,0,none⟩) (p.length+1) c,.slice (some ⟨g',0,none⟩) nT c'])/\
  w'.ownsRow w.heap.size 3 1 (.slice (some ⟨g,0,none⟩) (p.length+1) c) (p.length+1) ((p++[xv]).map (Value.int .i64))/\w'.ownsRow w.heap.size 123 1 (.slice (some ⟨g',0,none⟩) nT c') nT (yR bs ts y ts.length)/\Bl w w':=by
 obtain⟨i0,hi,c8,c9,d0⟩:=info_parts Tryz.infoInt;obtain⟨ap,cp,rfl⟩:=xJ hp;obtain⟨at',ct,rfl,hc⟩:=ht;obtain⟨n,h5⟩:∃n,n=ts.length:=⟨_,rfl⟩;rw[<-h5]at hc hn f9 g2 ⊢;clear h5;obtain⟨O,d6⟩:∃O,O=(w.alloc (.cells #[.slice ap p.length cp,.slice (some ⟨bb,0,none⟩) nT cb] 120)).alloc (.cells #[.slice none 0 0,.slice none 0 0] 120):=⟨_,rfl⟩;have e7:Bl w O:=by rw[d6];exact((bM _ _).alloc (bK _) _).alloc Ss _
 have h6:O.heap.size=w.heap.size+2:=by rw[d6];simp
 have g4:BrX O w.heap.size (.slice ap p.length cp) (.slice (some ⟨bb,0,none⟩) nT cb):=by rw[d6];exact(BrX.new w _ _).below ((bM _ _).alloc (bK _) _)
 have d9:BrX O (w.heap.size+1) (.slice none 0 0) (.slice none 0 0):=by
  rw[d6];have:=BrX.new (w.alloc (.cells #[.slice ap p.length cp,.slice (some ⟨bb,0,none⟩) nT cb] 120)) (.slice none 0 0) (.slice none 0 0);rw[World.size_alloc]at this;exact this
 have a2:=hid d9;have h7:=hid h6;have h9:=hid e7;have i3:Hid (∀W,Bl O W->W.cell? ⟨w.heap.size,0,none⟩=some (.slice ap p.length cp)/\W.cell? ⟨w.heap.size,1,none⟩=some (.slice (some ⟨bb,0,none⟩) nT cb)/\Bl O W):=hid λW hW=>⟨(g4.below hW).c0,(g4.below hW).c1,hW⟩
 have K1:Hid (∀W,Bl O W->Cl 150 #[.slice ap p.length cp] W λe w'=>∃v,e=.returned v/\w'.ownsRow O.heap.size 3 1 v p.length (p.map (Value.int .i64))/\Bl W w'/\Bl O w'):=hid λW hW=>
  (Vy W _ p (qK (qB (qB hp e7) hW)) Oo).mono λe w' ⟨v,h1,h2,h3⟩=>⟨v,h1,qF h2 hW.size,h3,bt hW h3⟩
 have K2:Hid (∀W,Bl O W->Cl 151 #[.slice (some ⟨bb,0,none⟩) nT cb] W λe w'=>∃g' c',e=.returned (.slice (some ⟨g',0,none⟩) nT c')/\w'.ownsRow O.heap.size 123 1 (.slice (some ⟨g',0,none⟩) nT c') nT bs/\Bl W w'/\Bl O w'):=hid λW hW=>
  (VN W B2 bb cb nT bs (qB (qB hb e7) hW) j3 Oo e8).mono λe w' ⟨g',c',h1,h2,h3⟩=>⟨g',c',h1,qF h2 hW.size,h3,bt hW h3⟩
 have HC:Hid (∀W,Bl w W->∀j,j < n->∃(b o:Nat),at'=some ⟨b,o,none⟩/\W.cell? ⟨b,o+j,none⟩=some (.int .i64 (ts.getD j 0))):=hid λW hW j hj=>by
  rcases hc with h0|⟨b,o,rfl,h⟩
  ·omega
  ·exact⟨b,o,rfl,(hW.cell (bL w _ (h j hj))).trans (h j hj)⟩
 have g5:=hid f9;have g6:=hid g2;have l0:=hid hb.1;clear hc f9 g2 hp hb e8 g4 d9 e7 h6;go_enter Tryz.func135,Tryz.ntmps135
 go_upto_region 1 with fail
 rw[<-d6];clear d6;go_cut [9] from 12 to 21 (λv wc=>∃k,v=.pointer (some ⟨k,0,none⟩)/\Hid (∃g c g' c',WiE O p xv nT bs k wc g c g' c'))
 case first=>
  first|go_region_held_law (λW=>W.cell? ⟨w.heap.size,0,none⟩=some (.slice ap p.length cp)/\W.cell? ⟨w.heap.size,1,none⟩=some (.slice (some ⟨bb,0,none⟩) nT cb)/\Bl O W)
   (first|(refine i3.out _ ?_;(repeat(first|(with_reducible exact bM _ _)|(with_reducible exact e0)|(with_reducible exact M)|(with_reducible exact V)|(with_reducible refine xU ?_)|(with_reducible refine qE ?_ _)|(with_reducible refine Below.setCell ?_ (by first|exact bK _|(dsimp only;omega)) _)));done)|fail)
   (first
    |(refine step_append_lies _ (by rfl) _ _ _ (by rfl) O.heap.size 3 i0 (.int .i64 0) 1 8 Tryz.underlying25 hi c8 c9 d0 rfl Dd d7 p.length _ (by rfl) K ⟨O.heap.size,0,none⟩ 1 1 [.int .i64 xv] (by rfl) (by rfl) (b7 _ (bM _ _)) (λu hu=>by simp at hu;subst hu;rfl) Dd (by unfold maxLen;omega) Oo (by first|exact a9|(simp;omega)) _ rfl ?_;intro e3 e4 d8 U I a5 a6;have M:=grB (by(repeat(first|(with_reducible exact bM _ _)|(with_reducible exact M)|(with_reducible exact V)|(with_reducible refine xU ?_)|(with_reducible refine qE ?_ _)))) K I;try(have a3:=e5.gr K Dd I))
    |(refine step_append_lies _ (by rfl) _ _ _ (by rfl) O.heap.size 3 i0 (.int .i64 0) 1 8 Tryz.underlying25 hi c8 c9 d0 rfl Dd d7 p.length _ (by rfl) K ⟨O.heap.size+1,0,none⟩ 1 1 [.int .i64 xv] (by rfl) (by rfl) (b7 _ (bM _ _)) (λu hu=>by simp at hu;subst hu;rfl) Dd (by unfold maxLen;omega) Oo (by first|exact a9|(simp;omega)) _ rfl ?_;intro e3 e4 d8 U I a5 a6;have M:=grB (by(repeat(first|(with_reducible exact bM _ _)|(with_reducible exact M)|(with_reducible exact V)|(with_reducible refine xU ?_)|(with_reducible refine qE ?_ _)))) K I;try(have a3:=e5.gr K Dd I))
    |(refine step_append_lies _ (by rfl) _ _ _ (by rfl) O.heap.size 3 i0 (.int .i64 0) 1 8 Tryz.underlying25 hi c8 c9 d0 rfl Dd d7 p.length _ (by rfl) (K.alloc _) ⟨b9.heap.size,0,none⟩ 1 1 [.int .i64 xv] (by rfl) (by rfl) (qH _ _ _) (λu hu=>by simp at hu;subst hu;rfl) Dd (by unfold maxLen;omega) Oo (by first|exact a9|(simp;omega)) _ rfl ?_;intro e3 e4 d8 U I a5 a6;have M:=grB (by(repeat(first|(with_reducible exact bM _ _)|(with_reducible exact M)|(with_reducible exact V)|(with_reducible refine xU ?_)|(with_reducible refine qE ?_ _)))) (K.alloc _) I;try(have a3:=(e5.below (qE (bM _ _) _)).gr (K.alloc _) Dd I))
    |(refine step_append_lies _ (by rfl) _ _ _ (by rfl) O.heap.size 3 i0 (.int .i64 0) 1 8 Tryz.underlying25 hi c8 c9 d0 rfl Dd d7 p.length _ (by rfl) (K.alloc _) ⟨O.heap.size,0,none⟩ 1 1 [.int .i64 xv] (by rfl) (by rfl) (b7 _ (qE (bM _ _) _)) (λu hu=>by simp at hu;subst hu;rfl) Dd (by unfold maxLen;omega) Oo (by first|exact a9|(simp;omega)) _ rfl ?_;intro e3 e4 d8 U I a5 a6;have M:=grB (by(repeat(first|(with_reducible exact bM _ _)|(with_reducible exact M)|(with_reducible exact V)|(with_reducible refine xU ?_)|(with_reducible refine qE ?_ _)))) (K.alloc _) I;try(have a3:=(BrX.new b9 _ _).gr (K.alloc _) Dd I))
    |(refine step_append_lies _ (by rfl) _ _ _ (by rfl) O.heap.size 3 i0 (.int .i64 0) 1 8 Tryz.underlying25 hi c8 c9 d0 rfl Dd d7 p.length _ (by rfl) ((K.alloc _).alloc _) ⟨b9.heap.size,0,none⟩ 1 1 [.int .i64 xv] (by rfl) (by rfl) (ZI rfl (qE (bM _ _) _)) (λu hu=>by simp at hu;subst hu;rfl) Dd (by unfold maxLen;omega) Oo (by first|exact a9|(simp;omega)) _ rfl ?_;intro e3 e4 d8 U I a5 a6;have M:=grB (by(repeat(first|(with_reducible exact bM _ _)|(with_reducible exact M)|(with_reducible exact V)|(with_reducible refine xU ?_)|(with_reducible refine qE ?_ _)))) ((K.alloc _).alloc _) I;try(have a3:=(qAo (X:=b9.alloc (.cells #[.int .i64 xv] 3)) (k:=b9.heap.size+1) Ss (bM _ _)).gr ((K.alloc _).alloc _) Dd I))
    |(refine step_append_lies _ (by rfl) _ _ _ (by rfl) O.heap.size 3 i0 (.int .i64 0) 1 8 Tryz.underlying25 hi c8 c9 d0 rfl Dd d7 p.length _ (by rfl) ((K.alloc _).alloc _) ⟨b9.heap.size+1,0,none⟩ 1 1 [.int .i64 xv] (by rfl) (by rfl) (ZI (X:=b9.alloc (.cells #[.slice none 0 0,.slice none 0 0] 120)) Ss (bM _ _)) (λu hu=>by simp at hu;subst hu;rfl) Dd (by unfold maxLen;omega) Oo (by first|exact a9|(simp;omega)) _ rfl ?_;intro e3 e4 d8 U I a5 a6;have M:=grB (by(repeat(first|(with_reducible exact bM _ _)|(with_reducible exact M)|(with_reducible exact V)|(with_reducible refine xU ?_)|(with_reducible refine qE ?_ _)))) ((K.alloc _).alloc _) I;try(have a3:=((BrX.new b9 _ _).below (qE (bM _ _) _)).gr ((K.alloc _).alloc _) Dd I))
    |(go_simp;go_at_call 150;(with_reducible refine(K1.out _ (by(repeat(first|(with_reducible exact bM _ _)|(with_reducible exact M)|(with_reducible exact V)|(with_reducible refine xU ?_)|(with_reducible refine qE ?_ _))))).mono ?_);rintro e b9 ⟨d7,rfl,K,e9,V⟩;have a9:=V.size;have a7:=qFf e9;clear e9;(first
     |(have b7:=qC9 (v:=.int .i64 xv) (t:=3) (X:=O) (k:=O.heap.size) rfl (bt (qE (bM _ _) _) a7);have e5:=qAo (X:=O.alloc (.cells #[.int .i64 xv] 3)) (k:=O.heap.size+1) Ss a7)
     |(have e5:=qAo (X:=O) (k:=O.heap.size) rfl (bt (qE (bM _ _) _) a7);have b7:=qC9 (v:=.int .i64 xv) (t:=3) (X:=O.alloc (.cells #[.slice none 0 0,.slice none 0 0] 120)) (k:=O.heap.size+1) Ss a7)
     |have b7:=qC9 (v:=.int .i64 xv) (t:=3) (X:=O) (k:=O.heap.size) rfl a7
     |have e5:=qAo (X:=O) (k:=O.heap.size) rfl a7
     |skip);clear a7)
    |(go_simp;go_at_call 151;(with_reducible refine(K2.out _ (by(repeat(first|(with_reducible exact bM _ _)|(with_reducible exact M)|(with_reducible exact V)|(with_reducible refine xU ?_)|(with_reducible refine qE ?_ _))))).mono ?_);rintro e l1 ⟨l2,l3,rfl,f4,c7,e0⟩;have k7:=M.size;(first|have b0:=qB U c7|have b0:=qB (U.alloc _) c7);(try(first|have a4:=a3.below c7|have a4:=(BrX.new d8 _ _).below c7));(try(have k0:=a4.c0;have k1:=a4.c1;have f0:=a4.free 0;have f1:=a4.free 1)))
    |fail)|fail
  all_goals(go_wp2_with fail;go_meet)
  all_goals first
   |exact⟨_,rfl,hid ⟨_,_,_,_,WiE.late b0 f4 e0⟩⟩
   |exact⟨_,rfl,hid ⟨_,_,_,_,WiE.early b0 f4 e0 a4 (by first|exact bK _|omega)⟩⟩
 case rest=>
 obtain⟨k9,rfl,i4⟩:=hcut;obtain⟨g,c,g',c',hE⟩:=i4.out;have HE:=hid hE;clear i4 hE K1 K2 i3;generalize wc=W5 at *;have i5:yR bs ts y 0=bs:=rfl;have i6:=hid i5;have g7:Hid (∀k,yR bs ts y (k+1)=(yR bs ts y k).set (ts.getD k 0).toNat (.pointer (some ⟨y k,0,none⟩))):=hid λk=>rfl;clear i5;have i7:=hid (bt h9.out HE.out.bel);have f7:=hid (a2.out.below HE.out.bel);have f8:O.heap.size<=k9:=HE.out.low;have g8:=hid (And.intro f8 h7.out);clear f8 h9 a2 h7;go_wp2_with fail
 go_loopw [24] (λt wr=>∃(j:Nat),j<=n/\t=.int .i64 j/\Hid (BrX wr k9 (.slice (some ⟨g,0,none⟩) (p.length+1) c) (.slice (some ⟨g',0,none⟩) nT c')/\wr.ownsRow O.heap.size 3 1 (.slice (some ⟨g,0,none⟩) (p.length+1) c) (p.length+1) ((p++[xv]).map (Value.int .i64))/\wr.ownsRow O.heap.size 123 1 (.slice (some ⟨g',0,none⟩) nT c') nT (yR bs ts y j)/\Bl w wr/\BrX wr (w.heap.size+1) (.slice none 0 0) (.slice none 0 0))) (λt _=>n - (intOf t).toNat)
 case atStart=>exact⟨0,nZ _,rfl,hid ⟨HE.out.box,HE.out.op,by rw[i6.out];exact HE.out.ob,i7.out,f7.out⟩⟩
 case round=>
  clear HE i6 i7 f7;obtain⟨j,l4,rfl,HT⟩:=hrel;obtain⟨hX,i8,i9,hB,d9⟩:=HT.out;have HX:=hid hX;have e6:=hid i8;have a8:=hid i9;have HB:=hid hB;have a2:=hid d9;clear HT hX i8 i9 hB d9;by_cases g9:j < n
  ·have i1:(j:Int) < (n:Int):=Oo;obtain⟨b,o,ea,e1⟩:=HC.out wr HB.out j g9;subst ea;have h3:=g5.out j g9;have j0:=hid (g7.out j);obtain⟨t,ht⟩:∃t:Nat,t=(ts.getD j 0).toNat:=⟨_,rfl⟩;have e2:ts.getD j 0=(t:Int):=Oo;rw[<-ht]at j0;rw[e2]at e1 h3;have i2:(t:Int) < (nT:Int):=Oo;clear ht e2 h3;have KB:=hid (λW (hW:Bl w W)=>g6.out W hW j g9);have j4:Hid (Bl w wr.drew):=hid HB.out.drew;generalize y j=yj at *;have k1:=HX.out.c1;have h4:k9≠g':=λe=>own_ne a8.out ⟨_,HX.out⟩ Dd (by rw[e];rfl);have HK:Hid (∀(d:Nat) (v:Value),((wr.drewN d).setCell ⟨g',t,none⟩ v).cell? ⟨k9,1,none⟩=some (.slice (some ⟨g',0,none⟩) nT c')):=hid λd v=>(bF (w:=wr) (a:=⟨k9,1,none⟩) (bE _ _ _ _ h4)).trans k1;have ff:∀d,(wr.drewN d).frozen? ⟨g',t,none⟩=false:=λd=>a8.out.frozenAt t;have fc:∀d,(wr.drewN d).cell? ⟨g',t,none⟩=(yR bs ts y j)[t]?:=λd=>a8.out.cellAt t Oo
   obtain⟨ou,j1⟩:∃ou,(yR bs ts y j)[t]?=some ou:=by
    have hl:=a8.out.1;exact⟨_,bC Oo⟩
   rw[j1]at fc;have j5:Hid (∀d:Nat,(wr.drewN d).cell? ⟨k9,1,none⟩=some (.slice (some ⟨g',0,none⟩) nT c')):=hid λd=>k1;have j6:Hid (wr.drew.cell? ⟨k9,1,none⟩=some (.slice (some ⟨g',0,none⟩) nT c')):=hid k1
   have HN:Hid (∀d:Nat,BrX ((wr.drewN d).setCell ⟨g',t,none⟩ (.pointer (some ⟨yj,0,none⟩))) k9 (.slice (some ⟨g,0,none⟩) (p.length+1) c) (.slice (some ⟨g',0,none⟩) nT c')/\((wr.drewN d).setCell ⟨g',t,none⟩ (.pointer (some ⟨yj,0,none⟩))).ownsRow O.heap.size 3 1 (.slice (some ⟨g,0,none⟩) (p.length+1) c) (p.length+1) ((p++[xv]).map (Value.int .i64))/\((wr.drewN d).setCell ⟨g',t,none⟩ (.pointer (some ⟨yj,0,none⟩))).ownsRow O.heap.size 123 1 (.slice (some ⟨g',0,none⟩) nT c') nT (yR bs ts y (j+1))/\Bl w ((wr.drewN d).setCell ⟨g',t,none⟩ (.pointer (some ⟨yj,0,none⟩)))/\BrX ((wr.drewN d).setCell ⟨g',t,none⟩ (.pointer (some ⟨yj,0,none⟩))) (w.heap.size+1) (.slice none 0 0) (.slice none 0 0)):=hid λd=>by
    have l5:=(a8.out.lt g' rfl);have h8:w.heap.size+1≠g':=λe=>own_ne a8.out ⟨_,a2.out⟩ Dd (by rw[e];rfl);refine⟨(bE _ _ _ _ h4).trans HX.out,qA (e6.out:(wr.drewN d).ownsRow _ _ _ _ _ _) λq hq=>bE _ _ _ _ (λe=>?_),?_,(below_drewN HB.out d).setCell (by show w.heap.size<=g';have:=g8.out.2;omega) _,(bE _ _ _ _ h8).trans a2.out⟩
    ·obtain⟨cur,hc⟩:=qO a8.out (g:=g') rfl;have e':q=g':=e;exact own_ne e6.out ⟨cur,hc⟩ Dd (by rw[<-e'];exact hq.symm)
    ·rw[j0.out];exact((a8.out:(wr.drewN d).ownsRow _ _ _ _ _ _).stored t _).1
   clear HC g5 g6 g7 HX e6 a8 a2 h4 k1 j1;generalize wr=wo at *;go_upto_region 5 with fail
   go_region_held_law (λW=>W.cell? ⟨k9,1,none⟩=some (.slice (some ⟨g',0,none⟩) nT c'))
    (first|(with_reducible exact j6.out)|(with_reducible exact j5.out _)|(with_reducible exact HK.out _ _)|fail)
    (first
     |(go_simp;go_at_call 152;(with_reducible refine(KB.out _ j4.out).mono ?_);rintro e w9 ⟨rfl,d,rfl⟩;have f1:=ff (1+d);have f2:=fc (1+d))
     |fail)
   all_goals(go_wp2_with fail;go_roundw)
   all_goals first
    |exact⟨j+1,Oo,Gg,hid (HN.out (1+d))⟩
    |(simp[intOf];omega)
  ·obtain rfl:j=n:=Oo;have i1:¬((j:Int) < (j:Int)):=Oo;have k0:=HX.out.c0;have k1:=HX.out.c1;have f0:=a2.out.free 0;have f1:=a2.out.free 1;have r0:=a2.out.c0;have r1:=a2.out.c1;have l6:k9≠w.heap.size+1:=by have:=g8.out;omega
   have k4:=hid (yZ (u1:=.slice (some ⟨g,0,none⟩) (p.length+1) c) (u2:=.slice (some ⟨g',0,none⟩) nT c') e6.out a2.out Dd);have k5:=hid (yZ (u1:=.slice (some ⟨g,0,none⟩) (p.length+1) c) (u2:=.slice (some ⟨g',0,none⟩) nT c') a8.out a2.out Dd);have j2:w.heap.size<=O.heap.size:=by have:=g8.out.2;omega
   clear HC g5 g6 g7 HX e6 a8 a2;go_wp2_with fail
   refine bodyPost_ret (v:=.agg #[.slice (some ⟨g,0,none⟩) (p.length+1) c,.slice (some ⟨g',0,none⟩) nT c']) (by simp[results,Tryz.results135,go_sem,r0,r1]) rfl ?_;exact⟨g,c,g',c',rfl,by have:=qF k4.out j2;simpa using this,qF k5.out j2,(HB.out.setCell (by show _<=w.heap.size+1;omega) _).setCell (by show _<=w.heap.size+1;omega) _⟩
end Go.Proofs.YtkaipapdlnojiaaGreat
