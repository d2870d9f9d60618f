import Derived.Test.YtnpgdnaeghilhaaGreatEq04
set_option maxHeartbeats 40000000
set_option maxRecDepth 1000000
namespace Go.Proofs.YtnpgdnaeghilhaaGreat
open Go.Proofs.Tryz Go.RowKit Meet
variable {xv:Int}{p:LI}{bs xs:LV}{c c' g g' k n nT s B:Nat}{e t:TypeId}{v x y vp vt:Value}{A X Y w:World}
theorem Qb(h:Below X.drew.1.size X.drew Y):Bl X Y:=⟨h.os,h.tape,h.output,h.size,h.block⟩
theorem qF3(I:k=X.1.size)(h:Below (X.alloc (.cells #[v] t)).1.size (X.alloc (.cells #[v] t)) Y):∀W,Bl Y W->∀j u,[v][j]?=some u->W.cell? (((az k 0):Addr).add j)=some u:=λ_ K=>YJ I (bt h K)
theorem qDf(I:k=X.1.size)(h:Below (X.alloc (.cells #[sn,sn] 178)).1.size (X.alloc (.cells #[sn,sn] 178)) Y):BrX Y k sn sn:=by
 subst I;exact(BrX.new X _ _).below h
theorem grB(h:Bl A X)(ho:X.ownsRow A.1.size e s v n xs)(I:X.grownBy Y v.ownBlock):Bl A Y:=h.grown I h.size λk K=>(ho.lt k K).1
theorem BrX.gr(h:BrX X k x y)(ho:X.ownsRow B e s v n xs)(I:e≠178)(K:X.grownBy Y v.ownBlock):BrX Y k x y:=(K.block k h.lt (own_ne ho ⟨_,h⟩ I)).trans h
theorem WiE.late(K:X.ownsRow A.1.size 3 1 (sZ g 0 (p.length+1) c) (p.length+1) (p.map ai++[ai xv]))(M:X.ownsRow A.1.size 181 1 (sZ g' 0 nT c') nT bs)(I:Bl A X):
 WiE A p xv nT bs X.1.size (X.alloc (.cells #[sZ g 0 (p.length+1) c,sZ g' 0 nT c'] 178)) g c g' c':=
 ⟨BrX.new X _ _,by rw[mA];exact K.alloc _,M.alloc _,qC I _,I.size⟩
theorem WiE.early(M:X.ownsRow A.1.size 3 1 (sZ g 0 (p.length+1) c) (p.length+1) (p.map ai++[ai xv]))(O:X.ownsRow A.1.size 181 1 (sZ g' 0 nT c') nT bs)(V:Bl A X)(I:BrX X k x y)(K:A.1.size<=k):
 WiE A p xv nT bs k ((X.setCell (az k 0) (sZ g 0 (p.length+1) c)).setCell (az k 1) (sZ g' 0 nT c')) g c g' c':=
 ⟨I.set _ _,by rw[mA];exact vm M I Dd,vm O I Dd,(V.setCell K _).setCell K _,K⟩
theorem qDg{B1 B2 bb cb}cu cc(p:LI){ts}xv y
 (hp:w.ownsRow B1 3 1 vp p.length (p.map ai)) (j6:p.length<=1000) (hb:w.ownsRow B2 181 1 (sZ bb 0 nT cb) nT bs) (e3:∀u∈bs,u.oneCell'=true) (i8:0<nT) (hT:nT<=1000)
 (ht:IS w vt ts) (hn:ts.length<=1000) (e8:∀j,j<ts.length->0<=ts.getD j 0/\ts.getD j 0<nT)
 (e9:∀W,Bl w W->∀j,j<ts.length->aF 196 #[.pointer (some (az cu (j*2)))] W (.pointer (some (az (y j) 0))) λw'=>∃d,w'=W.drewN d):
 Cl 193 #[.agg #[vp,sZ bb 0 nT cb],ai xv,vt,sZ cu 0 ts.length cc] w λe w'=>∃g c g' c',e=.returned (.agg #[sZ g 0 (p.length+1) c,sZ g' 0 nT c'])/\
  w'.ownsRow w.1.size 3 1 (sZ g 0 (p.length+1) c) (p.length+1) ((p++[xv]).map ai)/\w'.ownsRow w.1.size 181 1 (sZ g' 0 nT c') nT (vX bs ts y ts.length)/\Bl w w':=by
 have⟨i0,hi,c9,d0,d1⟩:=aX Tryz.infoInt;obtain⟨ap,cp,rfl⟩:=xT hp;obtain⟨i9,ct,rfl,hc⟩:=ht;have⟨n,g8⟩:=Ex ts.length;rw[<-g8]at hc hn e8 e9 |-;clear g8;have⟨O,d2⟩:=Ex ((w.alloc (.cells #[.slice ap p.length cp,sZ bb 0 nT cb] 178)).alloc (.cells #[sn,sn] 178));have e0:Bl w O:=by rw[d2];exact(aK).alloc Ss _
 have hs1:O.1.size=w.1.size+2:=by rw[d2];simp
 have f7:BrX O w.1.size (.slice ap p.length cp) (sZ bb 0 nT cb):=by rw[d2];exact(BrX.new w _ _).below (aK)
 have d5:BrX O (w.1.size+1) sn sn:=by
  rw[d2];have:=BrX.new (w.alloc (.cells #[.slice ap p.length cp,sZ bb 0 nT cb] 178)) sn sn;rw[aM]at this;exact this
 have a4:=ay d5;have g9:=ay hs1;have h4:=ay e0;have h5:Hh (∀W,Bl O W->W.cell? (az w.1.size 0)=some (.slice ap p.length cp)/\W.cell? (az w.1.size 1)=some (sZ bb 0 nT cb)/\Bl O W):=λW hW=>⟨(f7.below hW).c0,(f7.below hW).c1,hW⟩;have K1:Hh (∀W,Bl O W->Cl 123 #[.slice ap p.length cp] W λe w'=>∃v,e=.returned v/\w'.ownsRow O.1.size 3 1 v p.length (p.map ai)/\Bl W w'/\Bl O w'):=λW hW=>
  (uC W _ p (qN (qB (qB hp e0) hW)) Oo).mono λe w' ⟨v,h1,h2,h3⟩=>⟨v,h1,qE h2 hW.size,h3,bt hW h3⟩
 have K2:Hh (∀W,Bl O W->Cl 231 #[sZ bb 0 nT cb] W λe w'=>∃g' c',e=.returned (sZ g' 0 nT c')/\w'.ownsRow O.1.size 181 1 (sZ g' 0 nT c') nT bs/\Bl W w'/\Bl O w'):=λW hW=>
  (Ja W _ _ _ _ _ (qB (qB hb e0) hW) i8 Oo e3).mono λe w' ⟨g',c',h1,h2,h3⟩=>⟨g',c',h1,qE h2 hW.size,h3,bt hW h3⟩
 have HC:Hh (∀W,Bl w W->∀j,j<n->∃(b o:Nat),i9=some (az b o)/\W.cell? (az b (o+j))=some (ai (ts.getD j 0))):=λW hW j hj=>by
  rcases hc with h0|⟨b,o,rfl,h⟩;omega;exact⟨b,o,rfl,(hW.cell (bL w _ (h j hj))).trans (h j hj)⟩
 have f8:=ay e8;have f9:=ay e9;have k3:=ay hb.1;clear hc e8 e9 hp hb e3 f7 d5 e0 hs1;go_enter func193,ntmps193;go_upto_region 1 with fail;rw[<-d2];clear d2;go_cut [9] from 12 to 21 (λv wc=>∃k,v=.pointer (some (az k 0))/\Hh (∃g c g' c',WiE O p xv nT bs k wc g c g' c'))
 case first=>
  first|go_region_held_law (λW=>W.cell? (az w.1.size 0)=some (.slice ap p.length cp)/\W.cell? (az w.1.size 1)=some (sZ bb 0 nT cb)/\Bl O W)
   (first|refine h5.o _ ?_;(repeat(with_reducible first|exact eB|exact d6|exact M|exact a3|refine qT ?_|refine qC ?_ _|refine Below.setCell ?_ (by first|exact nR _|(dsimp only;omega)) _));done)
   (first
    |(refine step_append_lies _ Fl _ _ _ Fl _ 3 _ _ 1 8 underlying24 hi c9 d0 d1 rfl Dd _ _ _ Fl K _ 1 1 _ Fl Fl (b9 _ eB) (λu hu=>by simp at hu;subst hu;rfl) Dd Um Oo (by first|exact b7|(simp;omega)) _ rfl ?_;intro g17 d7 d4 V I a7 a8;have M:=grB (by(repeat(with_reducible first|exact eB|exact M|exact a3|refine qT ?_|refine qC ?_ _))) K I;try(have a5:=d8.gr K Dd I))
    |(refine step_append_lies _ Fl _ _ _ Fl O.1.size 3 i0 (ai 0) 1 8 underlying24 hi c9 d0 d1 rfl Dd d3 p.length _ Fl K (az (O.1.size+1) 0) 1 1 [ai xv] Fl Fl (b9 _ eB) (λu hu=>by simp at hu;subst hu;rfl) Dd Um Oo (by first|exact b7|(simp;omega)) _ rfl ?_;intro g17 d7 d4 V I a7 a8;have M:=grB (by(repeat(with_reducible first|exact eB|exact M|exact a3|refine qT ?_|refine qC ?_ _))) K I;try(have a5:=d8.gr K Dd I))
    |(refine step_append_lies _ Fl _ _ _ Fl _ 3 _ _ 1 8 underlying24 hi c9 d0 d1 rfl Dd _ _ _ Fl (K.alloc _) _ 1 1 _ Fl Fl (qH _ _ _) (λu hu=>by simp at hu;subst hu;rfl) Dd Um Oo (by first|exact b7|(simp;omega)) _ rfl ?_;intro g17 d7 d4 V I a7 a8;have M:=grB (by(repeat(with_reducible first|exact eB|exact M|exact a3|refine qT ?_|refine qC ?_ _))) (K.alloc _) I;try(have a5:=(d8.below (qC eB _)).gr (K.alloc _) Dd I))
    |(refine step_append_lies _ Fl _ _ _ Fl _ 3 _ _ 1 8 underlying24 hi c9 d0 d1 rfl Dd _ _ _ Fl (K.alloc _) _ 1 1 _ Fl Fl (b9 _ (qC eB _)) (λu hu=>by simp at hu;subst hu;rfl) Dd Um Oo (by first|exact b7|(simp;omega)) _ rfl ?_;intro g17 d7 d4 V I a7 a8;have M:=grB (by(repeat(with_reducible first|exact eB|exact M|exact a3|refine qT ?_|refine qC ?_ _))) (K.alloc _) I;try(have a5:=(BrX.new c7 _ _).gr (K.alloc _) Dd I))
    |(refine step_append_lies _ Fl _ _ _ Fl _ 3 _ _ 1 8 underlying24 hi c9 d0 d1 rfl Dd _ _ _ Fl ((K.alloc _).alloc _) _ 1 1 _ Fl Fl (YJ rfl (qC eB _)) (λu hu=>by simp at hu;subst hu;rfl) Dd Um Oo (by first|exact b7|(simp;omega)) _ rfl ?_;intro g17 d7 d4 V I a7 a8;have M:=grB (by(repeat(with_reducible first|exact eB|exact M|exact a3|refine qT ?_|refine qC ?_ _))) ((K.alloc _).alloc _) I;try(have a5:=(qDf (X:=c7.alloc (.cells _ 3)) (k:=c7.1.size+1) Ss eB).gr ((K.alloc _).alloc _) Dd I))
    |(refine step_append_lies _ Fl _ _ _ Fl _ 3 _ _ 1 8 underlying24 hi c9 d0 d1 rfl Dd _ _ _ Fl ((K.alloc _).alloc _) _ 1 1 _ Fl Fl (YJ (X:=c7.alloc (.cells #[sn,sn] 178)) Ss eB) (λu hu=>by simp at hu;subst hu;rfl) Dd Um Oo (by first|exact b7|(simp;omega)) _ rfl ?_;intro g17 d7 d4 V I a7 a8;have M:=grB (by(repeat(with_reducible first|exact eB|exact M|exact a3|refine qT ?_|refine qC ?_ _))) ((K.alloc _).alloc _) I;try(have a5:=((BrX.new _ _ _).below (qC eB _)).gr ((K.alloc _).alloc _) Dd I))
    |(go_simp;go_at_call 123;(with_reducible refine(K1.o _ (by(repeat(with_reducible first|exact eB|exact M|exact a3|refine qT ?_|refine qC ?_ _)))).mono ?_);rintro e c7 ⟨d3,rfl,K,e4,a3⟩;have b7:=a3.size;have a9:=Qb e4;clear e4;(first
       |(have b9:=qF3 (v:=ai xv) (t:=3) (X:=O) (k:=O.1.size) rfl (bt (qC eB _) a9);have d8:=qDf (X:=O.alloc (.cells #[ai xv] 3)) (k:=O.1.size+1) Ss a9)
       |(have d8:=qDf (X:=O) (k:=O.1.size) rfl (bt (qC eB _) a9);have b9:=qF3 (v:=ai xv) (t:=3) (X:=O.alloc (.cells #[sn,sn] 178)) (k:=O.1.size+1) Ss a9)
       |have b9:=qF3 (t:=3) rfl a9
       |have d8:=qDf (X:=O) (k:=O.1.size) rfl a9
       |skip);clear a9)
    |(go_simp;go_at_call 231;(with_reducible refine(K2.o _ (by(repeat(with_reducible first|exact eB|exact M|exact a3|refine qT ?_|refine qC ?_ _)))).mono ?_);rintro e k4 ⟨g20,k5,rfl,e5,c8,d6⟩;have j5:=M.size;(first|have b8:=qB V c8|have b8:=qB (V.alloc _) c8);(try(first|have a6:=a5.below c8|have a6:=(BrX.new _ _ _).below c8));(try(have k0:=a6.c0;have k1:=a6.c1;have f0:=a6.free 0;have f1:=a6.free 1)))
    |fail)|fail
  all_goals(go_wp2;go_meet)
  all_goals first
   |exact⟨_,rfl,ay ⟨_,_,_,_,WiE.late b8 e5 d6⟩⟩
   |exact⟨_,rfl,ay ⟨_,_,_,_,WiE.early b8 e5 d6 a6 (by first|exact nR _|omega)⟩⟩
 case rest=>
 obtain⟨k9,rfl,h6⟩:=hcut;have⟨g,c,g',c',hE⟩:=h6.o;have HE:=ay hE;clear h6 hE K1 K2 h5;generalize wc=W5 at *;have h7:vX bs ts y 0=bs:=rfl;have h9:=ay h7;have g4:Hh (∀k,vX bs ts y (k+1)=(vX bs ts y k).set (ts.getD k 0).toNat (.pointer (some (az (y k) 0)))):=λk=>rfl;clear h7;have i3:=ay (bt h4.o HE.o.bel);have e6:=ay (a4.o.below HE.o.bel);have e7:=HE.o.low;have g5:=ay (And.intro e7 g9.o);clear e7 h4 a4 g9;go_wp2;go_loopw [24] (λt wr=>∃(j:Nat),j<=n/\t=ai j/\Hh (BrX wr k9 (sZ g 0 (p.length+1) c) (sZ g' 0 nT c')/\wr.ownsRow O.1.size 3 1 (sZ g 0 (p.length+1) c) (p.length+1) ((p++[xv]).map ai)/\wr.ownsRow O.1.size 181 1 (sZ g' 0 nT c') nT (vX bs ts y j)/\Bl w wr/\BrX wr (w.1.size+1) sn sn)) (λt _=>n-(intOf t).toNat);exact⟨0,eC,rfl,ay ⟨HE.o.box,HE.o.op,by rw[h9.o];exact HE.o.ob,i3.o,e6.o⟩⟩;clear HE h9 i3 e6;obtain⟨j,k6,rfl,HT⟩:=hrel;have⟨hX,i4,i5,hB,d5⟩:=HT.o;have HX:=ay hX;have d9:=ay i4;have b1:=ay i5;have HB:=ay hB;have a4:=ay d5;clear HT hX i4 i5 hB d5;by_cases g6:j<n
 .have i1:=aV g6;have⟨b,o,ea,e1⟩:=HC.o wr HB.o j g6;subst ea;have h3:=f8.o j g6;have i6:=ay (g4.o j);have⟨t,ht⟩:=Ex ((ts.getD j 0).toNat:Nat);have e2:ts.getD j 0=(t:Int):=Oo;rw[<-ht]at i6;rw[e2]at e1 h3;have i2:(t:Int)<nT:=Oo;clear ht e2 h3;have KB:=ay (λW (hW:Bl w W)=>f9.o W hW j g6);have j0:=ay HB.o.drew;generalize y j=yj at *;have k1:=HX.o.c1;have g7:k9≠g':=λe=>own_ne b1.o ⟨_,HX.o⟩ Dd (by rw[e];rfl);have HK:Hh (∀(d:Nat) (v:Value),((wr.drewN d).setCell (az g' t) v).cell? (az k9 1)=some (sZ g' 0 nT c')):=λd v=>(bF (w:=wr) (a:=(az k9 1)) (eG g7)).trans k1;have ff:∀d,(wr.drewN d).frozen? (az g' t)=false:=λd=>b1.o.frozenAt t;have fc:∀d,(wr.drewN d).cell? (az g' t)=(vX bs ts y j)[t]?:=λd=>b1.o.cellAt t Oo;obtain⟨ou,i7⟩:∃ou,(vX bs ts y j)[t]?=some ou:=by
   have hl:=b1.o.1;exact⟨_,gE Oo⟩
  rw[i7]at fc;have j1:Hh (∀d:Nat,(wr.drewN d).cell? (az k9 1)=some (sZ g' 0 nT c')):=λd=>k1;have j2:Hh (wr.drew.cell? (az k9 1)=some (sZ g' 0 nT c')):=k1;have HN:Hh (∀d:Nat,BrX ((wr.drewN d).setCell (az g' t) (.pointer (some (az yj 0)))) k9 (sZ g 0 (p.length+1) c) (sZ g' 0 nT c')/\((wr.drewN d).setCell (az g' t) (.pointer (some (az yj 0)))).ownsRow O.1.size 3 1 (sZ g 0 (p.length+1) c) (p.length+1) ((p++[xv]).map ai)/\((wr.drewN d).setCell (az g' t) (.pointer (some (az yj 0)))).ownsRow O.1.size 181 1 (sZ g' 0 nT c') nT (vX bs ts y (j+1))/\Bl w ((wr.drewN d).setCell (az g' t) (.pointer (some (az yj 0))))/\BrX ((wr.drewN d).setCell (az g' t) (.pointer (some (az yj 0)))) (w.1.size+1) sn sn):=λd=>by
   have k7:=(b1.o.lt g' rfl);have h8:w.1.size+1≠g':=λe=>own_ne b1.o ⟨_,a4.o⟩ Dd (by rw[e];rfl);refine⟨(eG g7).trans HX.o,qD (d9.o:(wr.drewN d).ownsRow _ _ _ _ _ _) λq hq=>eG (λe=>?_),?_,(below_drewN HB.o d).setCell (by show w.1.size<=g';have:=g5.o.2;omega) _,(eG h8).trans a4.o⟩;have⟨cur,hc⟩:=qK b1.o (g:=g') rfl;have e':q=g':=e;exact own_ne d9.o ⟨cur,hc⟩ Dd (by rw[<-e'];exact hq.symm);rw[i6.o];exact((b1.o:(wr.drewN d).ownsRow _ _ _ _ _ _).stored t _).1
  clear HC f8 f9 g4 HX d9 b1 a4 g7 k1 i7;generalize wr=wo at *;go_upto_region 5 with fail;go_region_held_law (λW=>W.cell? (az k9 1)=some (sZ g' 0 nT c'))
   (with_reducible first|exact j2.o|exact j1.o _|exact HK.o _ _)
   (first
    |(go_simp;go_at_call 196;(with_reducible refine(KB.o _ j0.o).mono ?_);rintro e w9 ⟨rfl,d,rfl⟩;have f1:=ff (1+d);have f2:=fc (1+d))
    |fail)
  all_goals(go_wp2;go_roundw)
  all_goals first
   |exact⟨j+1,Oo,Gg,ay (HN.o (1+d))⟩
   |(simp[intOf];omega)
 obtain rfl:j=n:=Oo;have i1:=aY j;have k0:=HX.o.c0;have k1:=HX.o.c1;have f0:=a4.o.free 0;have f1:=a4.o.free 1;have r0:=a4.o.c0;have r1:=a4.o.c1;have k8:k9≠w.1.size+1:=O1 g5.o
 have j3:=ay (vm (u1:=sZ g 0 (p.length+1) c) (u2:=sZ g' 0 nT c') d9.o a4.o Dd);have j4:=ay (vm (u1:=sZ g 0 (p.length+1) c) (u2:=sZ g' 0 nT c') b1.o a4.o Dd);have hw1:w.1.size<=O.1.size:=O1 g5.o.2
 clear HC f8 f9 g4 HX d9 b1 a4;go_wp2_with fail;refine aU (v:=.agg #[sZ g 0 (p.length+1) c,sZ g' 0 nT c']) (by simp[results,results193,go_sem,r0,r1]) rfl ?_;exact⟨g,c,g',c',rfl,by have:=qE j3.o hw1;simpa using this,qE j4.o hw1,(HB.o.setCell (by show _<=w.1.size+1;omega) _).setCell (by show _<=w.1.size+1;omega) _⟩
