import Derived.Test.YtcnfapnfmnolbaaGreatRq13
set_option maxHeartbeats 40000000
set_option maxRecDepth 1000000
namespace Go.Proofs.YtcnfapnfmnolbaaGreat
open Go.RowKit Meet
variable {xv:Int}{p:LI}{bs xs:List Value}{c c' g g' k n nT s:Nat}{e:TypeId}{v x y:Value}{A X Y:World}
theorem Ql(h:Below X.drew.1.size X.drew Y):Bl X Y:=⟨h.os,h.tape,h.output,h.size,h.block⟩
theorem qDw{t:TypeId}(I:k=X.1.size)(h:Below (X.alloc (.cells #[v] t)).1.size (X.alloc (.cells #[v] t)) Y):∀W,Bl Y W->∀j u,[v][j]?=some u->W.cell? (((az k 0):Addr).add j)=some u:=λ_ K=>XC I (bt h K)
theorem qBq(I:k=X.1.size)(h:Below (X.alloc (.cells #[sn,sn] 143)).1.size (X.alloc (.cells #[sn,sn] 143)) Y):BrX Y k sn sn:=by
 subst I;exact(BrX.new X _ _).below h
theorem grB(h:Bl A X)(ho:X.ownsRow A.1.size e s v n xs)(I:X.grownBy Y v.ownBlock):Bl A Y:=h.grown I h.size λk K=>(ho.lt k K).1
theorem BrX.gr{B:Nat}(h:BrX X k x y)(ho:X.ownsRow B e s v n xs)(I:e≠143)(K:X.grownBy Y v.ownBlock):BrX Y k x y:=(K.block k h.lt (own_ne ho ⟨_,h⟩ I)).trans h
theorem WiE.late(K:X.ownsRow A.1.size 3 1 (.slice (some (az g 0)) (p.length+1) c) (p.length+1) (p.map ai++[ai xv]))(M:X.ownsRow A.1.size 111 1 (.slice (some (az g' 0)) nT c') nT bs)(I:Bl A X):
 WiE A p xv nT bs X.1.size (X.alloc (.cells #[.slice (some (az g 0)) (p.length+1) c,.slice (some (az g' 0)) nT c'] 143)) g c g' c':=
 ⟨BrX.new X _ _,by rw[mA];exact K.alloc _,M.alloc _,qD I _,I.size⟩
theorem WiE.early(M:X.ownsRow A.1.size 3 1 (.slice (some (az g 0)) (p.length+1) c) (p.length+1) (p.map ai++[ai xv]))(O:X.ownsRow A.1.size 111 1 (.slice (some (az g' 0)) nT c') nT bs)(U:Bl A X)(I:BrX X k x y)(K:A.1.size<=k):
 WiE A p xv nT bs k ((X.setCell (az k 0) (.slice (some (az g 0)) (p.length+1) c)).setCell (az k 1) (.slice (some (az g' 0)) nT c')) g c g' c':=
 ⟨I.set _ _,by rw[mA];exact y9 M I Dd,y9 O I Dd,(U.setCell K _).setCell K _,K⟩
theorem qBr(w:World)(B1 B2 bb nT cb cu cc:Nat)(vp vt:Value)(p ts:LI)(bs:List Value)(xv:Int)(y:Nat->Nat)
 (hp:w.ownsRow B1 3 1 vp p.length (p.map ai)) (j6:p.length<=1000) (hb:w.ownsRow B2 111 1 (.slice (some (az bb 0)) nT cb) nT bs) (d9:∀u∈bs,u.oneCell'=true) (i8:0<nT) (hT:nT<=1000)
 (ht:IS w vt ts) (hn:ts.length<=1000) (e6:∀j,j<ts.length->0<=ts.getD j 0/\ts.getD j 0<nT)
 (e7:∀W,Bl w W->∀j,j<ts.length->Cl 140 #[.pointer (some (az cu (j*2)))] W λe w'=>e=.returned (.pointer (some (az (y j) 0)))/\∃d,w'=W.drewN d):
 Cl 160 #[.agg #[vp,.slice (some (az bb 0)) nT cb],ai xv,vt,.slice (some (az cu 0)) ts.length cc] w λe w'=>∃g c g' c',e=.returned (.agg #[.slice (some (az g 0)) (p.length+1) c,.slice (some (az g' 0)) nT c'])/\
  w'.ownsRow w.1.size 3 1 (.slice (some (az g 0)) (p.length+1) c) (p.length+1) ((p++[xv]).map ai)/\w'.ownsRow w.1.size 111 1 (.slice (some (az g' 0)) nT c') nT (yy bs ts y ts.length)/\Bl w w':=by
 obtain⟨i0,hi,c7,c8,c9⟩:=info_parts Tryz.infoInt;obtain⟨ap,cp,rfl⟩:=xY hp;obtain⟨i9,ct,rfl,hc⟩:=ht;obtain⟨n,g6⟩:=Ex ts.length;rw[<-g6]at hc hn e6 e7 ⊢;clear g6;obtain⟨O,d0⟩:=Ex ((w.alloc (.cells #[.slice ap p.length cp,.slice (some (az bb 0)) nT cb] 143)).alloc (.cells #[sn,sn] 143));have d8:Bl w O:=by rw[d0];exact(aK).alloc Ss _
 have g7:O.1.size=w.1.size+2:=by rw[d0];simp
 have e8:BrX O w.1.size (.slice ap p.length cp) (.slice (some (az bb 0)) nT cb):=by rw[d0];exact(BrX.new w _ _).below (aK)
 have d3:BrX O (w.1.size+1) sn sn:=by
  rw[d0];have:=BrX.new (w.alloc (.cells #[.slice ap p.length cp,.slice (some (az bb 0)) nT cb] 143)) sn sn;rw[World.size_alloc]at this;exact this
 have a3:=ay d3;have g8:=ay g7;have g9:=ay d8;have h4:Hh (∀W,Bl O W->W.cell? (az w.1.size 0)=some (.slice ap p.length cp)/\W.cell? (az w.1.size 1)=some (.slice (some (az bb 0)) nT cb)/\Bl O W):=ay λW hW=>⟨(e8.below hW).c0,(e8.below hW).c1,hW⟩;have K1:Hh (∀W,Bl O W->Cl 81 #[.slice ap p.length cp] W λe w'=>∃v,e=.returned v/\w'.ownsRow O.1.size 3 1 v p.length (p.map ai)/\Bl W w'/\Bl O w'):=ay λW hW=>
  (vF W _ p (qS (qB (qB hp d8) hW)) Oo).mono λe w' ⟨v,h1,h2,h3⟩=>⟨v,h1,qF h2 hW.size,h3,bt hW h3⟩
 have K2:Hh (∀W,Bl O W->Cl 192 #[.slice (some (az bb 0)) nT cb] W λe w'=>∃g' c',e=.returned (.slice (some (az g' 0)) nT c')/\w'.ownsRow O.1.size 111 1 (.slice (some (az g' 0)) nT c') nT bs/\Bl W w'/\Bl O w'):=ay λW hW=>
  (UH W B2 bb cb nT bs (qB (qB hb d8) hW) i8 Oo d9).mono λe w' ⟨g',c',h1,h2,h3⟩=>⟨g',c',h1,qF h2 hW.size,h3,bt hW h3⟩
 have HC:Hh (∀W,Bl w W->∀j,j<n->∃(b o:Nat),i9=some (az b o)/\W.cell? (az b (o+j))=some (ai (ts.getD j 0))):=ay λW hW j hj=>by
  rcases hc with h0|⟨b,o,rfl,h⟩;omega;exact⟨b,o,rfl,(hW.cell (bL w _ (h j hj))).trans (h j hj)⟩
 have e9:=ay e6;have f7:=ay e7;have k2:=ay hb.1;clear hc e6 e7 hp hb d9 e8 d3 d8 g7;go_enter Tryz.func160,Tryz.ntmps160;go_upto_region 1 with fail;rw[<-d0];clear d0;go_cut [9] from 12 to 21 (λv wc=>∃k,v=.pointer (some (az k 0))/\Hh (∃g c g' c',WiE O p xv nT bs k wc g c g' c'))
 case first=>
  first|go_region_held_law (λW=>W.cell? (az w.1.size 0)=some (.slice ap p.length cp)/\W.cell? (az w.1.size 1)=some (.slice (some (az bb 0)) nT cb)/\Bl O W)
   (first|(refine h4.o _ ?_;(repeat(first|(with_reducible exact bJ _ _)|(with_reducible exact d4)|(with_reducible exact M)|(with_reducible exact V)|(with_reducible refine zD ?_)|(with_reducible refine qD ?_ _)|(with_reducible refine Below.setCell ?_ (by first|exact nR _|(dsimp only;omega)) _)));done)|fail)
   (first
    |(refine step_append_lies _ Fl _ _ _ Fl O.1.size 3 i0 (ai 0) 1 8 Tryz.underlying24 hi c7 c8 c9 rfl Dd d1 p.length _ Fl K (az O.1.size 0) 1 1 [ai xv] Fl Fl (b7 _ (bJ _ _)) (λu hu=>by simp at hu;subst hu;rfl) Dd Um Oo (by first|exact b0|(simp;omega)) _ rfl ?_;intro g17 d5 d2 U I a6 a7;have M:=grB (by(repeat(first|(with_reducible exact bJ _ _)|(with_reducible exact M)|(with_reducible exact V)|(with_reducible refine zD ?_)|(with_reducible refine qD ?_ _)))) K I;try(have a4:=d6.gr K Dd I))
    |(refine step_append_lies _ Fl _ _ _ Fl O.1.size 3 i0 (ai 0) 1 8 Tryz.underlying24 hi c7 c8 c9 rfl Dd d1 p.length _ Fl K (az (O.1.size+1) 0) 1 1 [ai xv] Fl Fl (b7 _ (bJ _ _)) (λu hu=>by simp at hu;subst hu;rfl) Dd Um Oo (by first|exact b0|(simp;omega)) _ rfl ?_;intro g17 d5 d2 U I a6 a7;have M:=grB (by(repeat(first|(with_reducible exact bJ _ _)|(with_reducible exact M)|(with_reducible exact V)|(with_reducible refine zD ?_)|(with_reducible refine qD ?_ _)))) K I;try(have a4:=d6.gr K Dd I))
    |(refine step_append_lies _ Fl _ _ _ Fl O.1.size 3 i0 (ai 0) 1 8 Tryz.underlying24 hi c7 c8 c9 rfl Dd d1 p.length _ Fl (K.alloc _) (az b8.1.size 0) 1 1 [ai xv] Fl Fl (qH _ _ _) (λu hu=>by simp at hu;subst hu;rfl) Dd Um Oo (by first|exact b0|(simp;omega)) _ rfl ?_;intro g17 d5 d2 U I a6 a7;have M:=grB (by(repeat(first|(with_reducible exact bJ _ _)|(with_reducible exact M)|(with_reducible exact V)|(with_reducible refine zD ?_)|(with_reducible refine qD ?_ _)))) (K.alloc _) I;try(have a4:=(d6.below (qD (bJ _ _) _)).gr (K.alloc _) Dd I))
    |(refine step_append_lies _ Fl _ _ _ Fl O.1.size 3 i0 (ai 0) 1 8 Tryz.underlying24 hi c7 c8 c9 rfl Dd d1 p.length _ Fl (K.alloc _) (az O.1.size 0) 1 1 [ai xv] Fl Fl (b7 _ (qD (bJ _ _) _)) (λu hu=>by simp at hu;subst hu;rfl) Dd Um Oo (by first|exact b0|(simp;omega)) _ rfl ?_;intro g17 d5 d2 U I a6 a7;have M:=grB (by(repeat(first|(with_reducible exact bJ _ _)|(with_reducible exact M)|(with_reducible exact V)|(with_reducible refine zD ?_)|(with_reducible refine qD ?_ _)))) (K.alloc _) I;try(have a4:=(BrX.new b8 _ _).gr (K.alloc _) Dd I))
    |(refine step_append_lies _ Fl _ _ _ Fl O.1.size 3 i0 (ai 0) 1 8 Tryz.underlying24 hi c7 c8 c9 rfl Dd d1 p.length _ Fl ((K.alloc _).alloc _) (az b8.1.size 0) 1 1 [ai xv] Fl Fl (XC rfl (qD (bJ _ _) _)) (λu hu=>by simp at hu;subst hu;rfl) Dd Um Oo (by first|exact b0|(simp;omega)) _ rfl ?_;intro g17 d5 d2 U I a6 a7;have M:=grB (by(repeat(first|(with_reducible exact bJ _ _)|(with_reducible exact M)|(with_reducible exact V)|(with_reducible refine zD ?_)|(with_reducible refine qD ?_ _)))) ((K.alloc _).alloc _) I;try(have a4:=(qBq (X:=b8.alloc (.cells #[ai xv] 3)) (k:=b8.1.size+1) Ss (bJ _ _)).gr ((K.alloc _).alloc _) Dd I))
    |(refine step_append_lies _ Fl _ _ _ Fl O.1.size 3 i0 (ai 0) 1 8 Tryz.underlying24 hi c7 c8 c9 rfl Dd d1 p.length _ Fl ((K.alloc _).alloc _) (az (b8.1.size+1) 0) 1 1 [ai xv] Fl Fl (XC (X:=b8.alloc (.cells #[sn,sn] 143)) Ss (bJ _ _)) (λu hu=>by simp at hu;subst hu;rfl) Dd Um Oo (by first|exact b0|(simp;omega)) _ rfl ?_;intro g17 d5 d2 U I a6 a7;have M:=grB (by(repeat(first|(with_reducible exact bJ _ _)|(with_reducible exact M)|(with_reducible exact V)|(with_reducible refine zD ?_)|(with_reducible refine qD ?_ _)))) ((K.alloc _).alloc _) I;try(have a4:=((BrX.new b8 _ _).below (qD (bJ _ _) _)).gr ((K.alloc _).alloc _) Dd I))
    |(go_simp;go_at_call 81;(with_reducible refine(K1.o _ (by(repeat(first|(with_reducible exact bJ _ _)|(with_reducible exact M)|(with_reducible exact V)|(with_reducible refine zD ?_)|(with_reducible refine qD ?_ _))))).mono ?_);rintro e b8 ⟨d1,rfl,K,e0,V⟩;have b0:=V.size;have a8:=Ql e0;clear e0;(first
       |(have b7:=qDw (v:=ai xv) (t:=3) (X:=O) (k:=O.1.size) rfl (bt (qD (bJ _ _) _) a8);have d6:=qBq (X:=O.alloc (.cells #[ai xv] 3)) (k:=O.1.size+1) Ss a8)
       |(have d6:=qBq (X:=O) (k:=O.1.size) rfl (bt (qD (bJ _ _) _) a8);have b7:=qDw (v:=ai xv) (t:=3) (X:=O.alloc (.cells #[sn,sn] 143)) (k:=O.1.size+1) Ss a8)
       |have b7:=qDw (v:=ai xv) (t:=3) (X:=O) (k:=O.1.size) rfl a8
       |have d6:=qBq (X:=O) (k:=O.1.size) rfl a8
       |skip);clear a8)
    |(go_simp;go_at_call 192;(with_reducible refine(K2.o _ (by(repeat(first|(with_reducible exact bJ _ _)|(with_reducible exact M)|(with_reducible exact V)|(with_reducible refine zD ?_)|(with_reducible refine qD ?_ _))))).mono ?_);rintro e k3 ⟨g20,k4,rfl,e3,b9,d4⟩;have j5:=M.size;(first|have b1:=qB U b9|have b1:=qB (U.alloc _) b9);(try(first|have a5:=a4.below b9|have a5:=(BrX.new d2 _ _).below b9));(try(have k0:=a5.c0;have k1:=a5.c1;have f0:=a5.free 0;have f1:=a5.free 1)))
    |fail)|fail
  all_goals(go_wp2_with fail;go_meet)
  all_goals first
   |exact⟨_,rfl,ay ⟨_,_,_,_,WiE.late b1 e3 d4⟩⟩
   |exact⟨_,rfl,ay ⟨_,_,_,_,WiE.early b1 e3 d4 a5 (by first|exact nR _|omega)⟩⟩
 case rest=>
 obtain⟨k9,rfl,h5⟩:=hcut;obtain⟨g,c,g',c',hE⟩:=h5.o;have HE:=ay hE;clear h5 hE K1 K2 h4;generalize wc=W5 at *;have h6:yy bs ts y 0=bs:=rfl;have h7:=ay h6;have f8:Hh (∀k,yy bs ts y (k+1)=(yy bs ts y k).set (ts.getD k 0).toNat (.pointer (some (az (y k) 0)))):=ay λk=>rfl;clear h6;have h9:=ay (bt g9.o HE.o.bel);have e4:=ay (a3.o.below HE.o.bel);have e5:O.1.size<=k9:=HE.o.low;have f9:=ay (And.intro e5 g8.o);clear e5 g9 a3 g8;go_wp2_with fail;go_loopw [24] (λt wr=>∃(j:Nat),j<=n/\t=ai j/\Hh (BrX wr k9 (.slice (some (az g 0)) (p.length+1) c) (.slice (some (az g' 0)) nT c')/\wr.ownsRow O.1.size 3 1 (.slice (some (az g 0)) (p.length+1) c) (p.length+1) ((p++[xv]).map ai)/\wr.ownsRow O.1.size 111 1 (.slice (some (az g' 0)) nT c') nT (yy bs ts y j)/\Bl w wr/\BrX wr (w.1.size+1) sn sn)) (λt _=>n-(intOf t).toNat);exact⟨0,nZ _,rfl,ay ⟨HE.o.box,HE.o.op,by rw[h7.o];exact HE.o.ob,h9.o,e4.o⟩⟩;clear HE h7 h9 e4;obtain⟨j,k5,rfl,HT⟩:=hrel;obtain⟨hX,i3,i4,hB,d3⟩:=HT.o;have HX:=ay hX;have d7:=ay i3;have a9:=ay i4;have HB:=ay hB;have a3:=ay d3;clear HT hX i3 i4 hB d3;by_cases g4:j<n
 ·have i1:(j:Int)<(n:Int):=Oo;obtain⟨b,o,ea,e1⟩:=HC.o wr HB.o j g4;subst ea;have h3:=e9.o j g4;have i5:=ay (f8.o j);obtain⟨t,ht⟩:=Ex ((ts.getD j 0).toNat:Nat);have e2:ts.getD j 0=(t:Int):=Oo;rw[<-ht]at i5;rw[e2]at e1 h3;have i2:(t:Int)<(nT:Int):=Oo;clear ht e2 h3;have KB:=ay (λW (hW:Bl w W)=>f7.o W hW j g4);have j0:Hh (Bl w wr.drew):=ay HB.o.drew;generalize y j=yj at *;have k1:=HX.o.c1;have g5:k9≠g':=λe=>own_ne a9.o ⟨_,HX.o⟩ Dd (by rw[e];rfl);have HK:Hh (∀(d:Nat) (v:Value),((wr.drewN d).setCell (az g' t) v).cell? (az k9 1)=some (.slice (some (az g' 0)) nT c')):=ay λd v=>(bF (w:=wr) (a:=(az k9 1)) (bD _ _ _ _ g5)).trans k1;have ff:∀d,(wr.drewN d).frozen? (az g' t)=false:=λd=>a9.o.frozenAt t;have fc:∀d,(wr.drewN d).cell? (az g' t)=(yy bs ts y j)[t]?:=λd=>a9.o.cellAt t Oo;obtain⟨ou,i6⟩:∃ou,(yy bs ts y j)[t]?=some ou:=by
   have hl:=a9.o.1;exact⟨_,gE Oo⟩
  rw[i6]at fc;have j1:Hh (∀d:Nat,(wr.drewN d).cell? (az k9 1)=some (.slice (some (az g' 0)) nT c')):=ay λd=>k1;have j2:Hh (wr.drew.cell? (az k9 1)=some (.slice (some (az g' 0)) nT c')):=ay k1;have HN:Hh (∀d:Nat,BrX ((wr.drewN d).setCell (az g' t) (.pointer (some (az yj 0)))) k9 (.slice (some (az g 0)) (p.length+1) c) (.slice (some (az g' 0)) nT c')/\((wr.drewN d).setCell (az g' t) (.pointer (some (az yj 0)))).ownsRow O.1.size 3 1 (.slice (some (az g 0)) (p.length+1) c) (p.length+1) ((p++[xv]).map ai)/\((wr.drewN d).setCell (az g' t) (.pointer (some (az yj 0)))).ownsRow O.1.size 111 1 (.slice (some (az g' 0)) nT c') nT (yy bs ts y (j+1))/\Bl w ((wr.drewN d).setCell (az g' t) (.pointer (some (az yj 0))))/\BrX ((wr.drewN d).setCell (az g' t) (.pointer (some (az yj 0)))) (w.1.size+1) sn sn):=ay λd=>by
   have k6:=(a9.o.lt g' rfl);have h8:w.1.size+1≠g':=λe=>own_ne a9.o ⟨_,a3.o⟩ Dd (by rw[e];rfl);refine⟨(bD _ _ _ _ g5).trans HX.o,qC (d7.o:(wr.drewN d).ownsRow _ _ _ _ _ _) λq hq=>bD _ _ _ _ (λe=>?_),?_,(below_drewN HB.o d).setCell (by show w.1.size<=g';have:=f9.o.2;omega) _,(bD _ _ _ _ h8).trans a3.o⟩;obtain⟨cur,hc⟩:=qN a9.o (g:=g') rfl;have e':q=g':=e;exact own_ne d7.o ⟨cur,hc⟩ Dd (by rw[<-e'];exact hq.symm);rw[i5.o];exact((a9.o:(wr.drewN d).ownsRow _ _ _ _ _ _).stored t _).1
  clear HC e9 f7 f8 HX d7 a9 a3 g5 k1 i6;generalize wr=wo at *;go_upto_region 5 with fail;go_region_held_law (λW=>W.cell? (az k9 1)=some (.slice (some (az g' 0)) nT c'))
   (first|(with_reducible exact j2.o)|(with_reducible exact j1.o _)|(with_reducible exact HK.o _ _)|fail)
   (first
    |(go_simp;go_at_call 140;(with_reducible refine(KB.o _ j0.o).mono ?_);rintro e w9 ⟨rfl,d,rfl⟩;have f1:=ff (1+d);have f2:=fc (1+d))
    |fail)
  all_goals(go_wp2_with fail;go_roundw)
  all_goals first
   |exact⟨j+1,Oo,Gg,ay (HN.o (1+d))⟩
   |(simp[intOf];omega)
 obtain rfl:j=n:=Oo;have i1:¬((j:Int)<(j:Int)):=Oo;have k0:=HX.o.c0;have k1:=HX.o.c1;have f0:=a3.o.free 0;have f1:=a3.o.free 1;have r0:=a3.o.c0;have r1:=a3.o.c1;have k7:k9≠w.1.size+1:=by have:=f9.o;omega
 have j3:=ay (y9 (u1:=.slice (some (az g 0)) (p.length+1) c) (u2:=.slice (some (az g' 0)) nT c') d7.o a3.o Dd);have j4:=ay (y9 (u1:=.slice (some (az g 0)) (p.length+1) c) (u2:=.slice (some (az g' 0)) nT c') a9.o a3.o Dd);have i7:w.1.size<=O.1.size:=by have:=f9.o.2;omega
 clear HC e9 f7 f8 HX d7 a9 a3;go_wp2_with fail;refine bodyPost_ret (v:=.agg #[.slice (some (az g 0)) (p.length+1) c,.slice (some (az g' 0)) nT c']) (by simp[results,Tryz.results160,go_sem,r0,r1]) rfl ?_;exact⟨g,c,g',c',rfl,by have:=qF j3.o i7;simpa using this,qF j4.o i7,(HB.o.setCell (by show _<=w.1.size+1;omega) _).setCell (by show _<=w.1.size+1;omega) _⟩
end Go.Proofs.YtcnfapnfmnolbaaGreat
