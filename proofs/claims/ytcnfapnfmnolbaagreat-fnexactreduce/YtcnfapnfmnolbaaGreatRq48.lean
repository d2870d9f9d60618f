import Derived.Test.YtcnfapnfmnolbaaGreatRq47
set_option maxHeartbeats 40000000
set_option maxRecDepth 1000000
namespace Go.Proofs.YtcnfapnfmnolbaaGreat
open Go.RowKit
variable {B:Nat}
structure Bx2(ty:TypeId)(W:World)(p:Nat)(v0 v1:Value):Prop where
 blk:W.1[p]?=some (.cells #[v0,v1] ty (0,0))
section
variable {ty:TypeId} {W W':World} {p:Nat} {v0 v1:Value}
theorem Bx2.lt(h:Bx2 ty W p v0 v1):p<W.1.size:=by
 rcases Nat.lt_or_ge p W.1.size with I|I;exact I;have:=h.blk;rw[Array.getElem?_eq_none I]at this;cases this
theorem Bx2.at(h:Bx2 ty W p v0 v1)(hb:Below B W W')(I:p<B):Bx2 ty W' p v0 v1:=⟨(hb.block p I).trans h.blk⟩
theorem Bx2.c0(h:Bx2 ty W p v0 v1):W.cell? (az p 0)=some v0:=by rw[cell_of_row _ _ _ _ _ _ h.blk];rfl
theorem Bx2.c1(h:Bx2 ty W p v0 v1):W.cell? (az p 1)=some v1:=by rw[cell_of_row _ _ _ _ _ _ h.blk];rfl
theorem Bx2.free(h:Bx2 ty W p v0 v1)(j:Nat):W.frozen? (az p j)=false:=by unfold World.frozen?;rw[h.blk];simp
theorem Bx2.made(ty:TypeId)(w:World)(v0 v1:Value):Bx2 ty (w.alloc (.cells #[v0,v1] ty)) w.1.size v0 v1:=⟨heap_alloc_new _ _⟩
theorem Bx2.gr{Y:World}{s n:Nat}{u:Value}{e:TypeId}{xs:List Value}(h:Bx2 ty W p v0 v1)(ho:W.ownsRow B e s u n xs)(I:e≠ty)(K:W.grownBy Y u.ownBlock):Bx2 ty Y p v0 v1:=⟨(K.block p h.lt (own_ne ho ⟨_,h.blk⟩ I)).trans h.blk⟩
theorem Bx2.set1(h:Bx2 ty W p v0 v1)(u:Value):Bx2 ty (W.setCell (az p 1) u) p v0 u:=⟨by rw[bI _ _ _ _ _ _ h.blk];rfl⟩
end
theorem kO{A X:World}(h:Bl A X)(o:Obj):Bl A (X.alloc o):=h.alloc h.size o
theorem qCB(w:World)(x y:Value)(t:TypeId):∀j u,[x,y][j]?=some u->(w.alloc (.cells #[x,y] t)).cell? (((az w.1.size 0):Addr).add j)=some u:=by
 intro j u I;have e:((az w.1.size 0):Addr).add j=(az w.1.size j):=by unfold Addr.add;by_cases K:j=0 <;> simp[K]
 rw[e,bE _ _ _ _ rfl];match j,I with
 |0,I=>simpa using I
 |1,I=>simpa using I
 |j+2,I=>simp at I
theorem Tryz.infoAn:(Tryz.prog.info? 57).map (λi=>(i.zero,i.size,i.bytes))=some (some (.agg #[sn,sn]),2,48):=Kl
structure AnB(W0 W:World)(p i:Nat)(v0:Value)(a:Option Addr)(c:Nat):Prop where
 bx:Bx2 57 W p v0 (.slice a i c)
 own:∃xs,W.ownsRow (p+1) 3 1 (.slice a i c) i xs
 bel:Below p W0 W
theorem YS(w:World)(vt:Value)(M:Nat)(tl:List TbV)(h:ITsC w vt tl)(hk:M<=6)(hl:tl.length<=7)(c7:okJ tl (upR M)=true):
 Cl 20 #[ai (M:Int),vt] w λe w'=>∃v,e=.returned (.tuple #[v,.bool (decide (0<=qw tl (upR M)))])/\AnS w' v (qu tl (upR M))/\Bl w w':=by
 obtain⟨i0,hi,e9,f7,f8⟩:=info_parts Tryz.infoInt;obtain⟨iA,hA,o5,o6,o7⟩:=info_parts Tryz.infoAn;have q4:Tryz.prog.follows .mixedOrders=true:=Kl;have d5:∀W:World,Bl W W.drew:=λW=>(bJ _ _).drew;have HP:Hh (∀j,(upR (j+1)).map ai=(upR j).map ai++[ai (j:Int)]):=ay λj=>by rw[KD,mA];rfl
 have j0:Hh ((upR 0).map ai=[]):=ay rfl;obtain⟨-,c8,e5⟩:=Vv c7;have KJ:Hh (∀W vo,Bl w W->W.ownsRow w.1.size 3 1 vo M ((upR M).map ai)->Cl 46 #[vt,vo] W λe w'=>∃a c,e=.returned (.tuple #[.slice a (qu tl (upR M)).length c,ai (qw tl (upR M))])/\ISS w' (.slice a (qu tl (upR M)).length c) (qu tl (upR M))/\Bl W w'):=ay λW vo hW ho=>by
  refine(Qs W vt vo tl (upR M) (h.its.below hW) (qS (by rw[xS];exact ho)) Oo (by rw[xS];omega) (λt ht=>kF (c8 t ht)) (ko e5)).mono ?_;rintro e w' ⟨v,rfl,hF,hb⟩;rw[<-(xw c7).1]at hF;rw[<-(xw c7).2];have hI:=hF.self;obtain⟨a,c,e0,-⟩:=id hI;subst e0;exact⟨a,c,rfl,hI,hb⟩
 have f9:Hh (∀j,j<(qu tl (upR M)).length->∀i,i<tl.length->qm (tl.getD i qA).vs ((qu tl (upR M)).getD j [])∈(tl.getD i qA).rows/\((qu tl (upR M)).getD j []).length=M/\∀y∈(tl.getD i qA).vs,0<=y/\y<M):=ay λj hj i hi=>qEY c7 (yC hj) (yC hi);have j1:Hh (∀i,i<tl.length->qU (tl.getD i qA)=true):=ay λi hi=>c8 _ (yC hi);have j2:Hh ((qu tl (upR M)).length<=10000):=ay xx.1;obtain⟨o8,ct,rfl,hc⟩:=h;have HC:Hh (∀i,i<tl.length->∃(b oo:Nat) (v0 v1 v2:Value),o8=some (az b oo)/\(∀W,Bl w W->W.cell? (az b (oo+i*3))=some v0/\W.cell? (az b (oo+i*3+1))=some v1/\W.cell? (az b (oo+i*3+2))=some v2/\IT W v0 v1 v2 (tl.getD i qA).vs (tl.getD i qA).rows (tl.getD i qA).ws/\ISSc W v1 (tl.getD i qA).rows)):=ay λi hi=>by
  rcases hc with h0|⟨b,oo,rfl,h⟩;omega;obtain⟨v0,v1,v2,c0,c1,c2,hI,hS⟩:=h i hi;exact⟨b,oo,v0,v1,v2,rfl,λW hW=>⟨qJ hW c0,qJ hW c1,qJ hW c2,hI.below hW,hS.below hW⟩⟩
 clear hc c8 e5 c7;generalize qw tl (upR M)=VJ at *;obtain⟨BV,g4⟩:=Ex (decide (0<=VJ));rw[<-g4];have j3:=ay g4;clear g4;generalize hrw:qu tl (upR M)=rows at *;clear hrw;obtain⟨nt,j4⟩:=Ex tl.length;rw[<-j4]at hl f9 j1 HC KJ ⊢;clear j4;obtain⟨nr,g5⟩:=Ex rows.length;have a9:=ay g5;rw[<-g5]at KJ f9 j2;clear g5;obtain⟨W1,g6⟩:=Ex (w.alloc (.cells #[] 3));have g7:Hh (W1.ownsRow w.1.size 3 1 (.slice (some (az w.1.size 0)) 0 0) 0 []/\Bl w W1):=ay (by rw[g6];exact⟨oM w #[] 0 (nR _) Dd rfl,aK⟩);go_enter Tryz.func20,Tryz.ntmps20;go_upto_region 2 with fail;rw[<-g6];clear g6;go_wp2_with fail;go_loopw [6,7] (λu t wr=>∃(j:Nat) (vo:Value),j<=M/\t=ai j/\vo=u/\Hh (wr.ownsRow w.1.size 3 1 vo j ((upR j).map ai)/\Bl w wr)) (λ_ t _=>M-(intOf t).toNat);exact⟨0,_,nZ _,rfl,rfl,ay ⟨by rw[j0.o];exact g7.o.1,g7.o.2⟩⟩;clear g7 j0;obtain⟨j,vo,hj,rfl,rfl,HT⟩:=hrel;by_cases q5:j<M
 ·have i1:(j:Int)<(M:Int):=Oo;have d6:=ay (HP.o j);have g8:=HT.o.2.size;go_wp2_with (first|(at_builtin;refine wpList_append_lies _ rfl _ _ 24 rfl w.1.size 3 i0 (ai 0) 1 8 Tryz.underlying24 hi e9 f7 f8 rfl Dd vo _ _ rfl (HT.o.1.alloc _) (az _ 0) 1 1 [ai (j:Int)] rfl rfl (qH _ _ _) (λu hu=>by simp at hu;subst hu;rfl) Dd Um Oo Sy _ rfl ?_;intro g3 cp3 w4 a6 a3 j5 j6)|fail);go_roundw;exact⟨j+1,_,Oo,Gg,rfl,ay ⟨by rw[d6.o];exact a6,(HT.o.2.alloc g8 _).grown a3 Sy (λq hq=>(HT.o.1.lt q hq).1)⟩⟩;exact Im
 obtain rfl:M=j:=Oo;have i1:¬((M:Int)<(M:Int)):=Oo;have k3:=ay (KJ.o wr vo HT.o.2 HT.o.1);clear KJ HP;generalize wr=wA at *;obtain⟨ao,co,eo⟩:=qG HT.o.1;subst eo;go_upto_region 7 with (first|(go_at_call 46;refine k3.o.mono ?_;rintro e w3 ⟨ar,cr,rfl,k4,k5⟩)|fail);have d7:=ay (bt HT.o.2 k5);have k6:=ay k4;clear k3 k5 k4 HT;obtain⟨W4,h4⟩:=Ex (w3.alloc (.cells #[] 57));have k7:Hh (AnM w3 W4 (.slice (some (az w3.1.size 0)) 0 0) (rows.take 0) []):=ay (by rw[h4];exact⟨rfl,oM w3 #[] 0 (nR _) Dd rfl,λi hi=>by simp at hi,aK⟩);have k8:Hh (∀j,j<nr->rows.take (j+1)=rows.take j++[rows.getD j []]/\(rows.take j).length=j):=ay λj hj=>⟨by rw[tA,gE (by rw[<-a9.o];exact hj),gdR (by rw[<-a9.o];exact hj)];rfl,by rw[bW,<-a9.o];omega⟩;have k9:Hh (rows.take nr=rows):=ay (by rw[a9.o,tL]);have l0:Hh (∀j,j<nr->∃(b o:Nat) (u:Value),ar=some (az b o)/\IS w3 u (rows.getD j [])/\∀W,Bl w3 W->W.cell? (az b (o+j))=some u):=ay λj hj=>by
  obtain⟨a,c,e,hh⟩:=k6.o;simp only[Value.slice.injEq]at e;obtain⟨rfl,-,-⟩:=e;rcases hh with h0|⟨b,o,rfl,hh⟩;have:=a9.o;omega;obtain⟨u,U,h2⟩:=hh j (by rw[<-a9.o];exact hj);exact⟨b,o,u,rfl,h2,λW hW=>qJ hW U⟩
 go_upto_region 8 with fail;rw[<-h4];clear h4 k6;go_wp2_with fail;go_loopw [10,38] (λu t wr=>∃(j:Nat) (vA:Value),j<=nr/\t=ai j/\vA=u/\Hh (∃cs,AnM w3 wr vA (rows.take j) cs)) (λ_ t _=>nr-(intOf t).toNat);exact⟨0,_,nZ _,rfl,rfl,ay ⟨_,k7.o⟩⟩;clear k7;obtain⟨j,vA,q6,rfl,rfl,d8⟩:=hrel;by_cases h5:j<nr
 ·have i2:(j:Int)<(nr:Int):=Oo;obtain⟨br,q7,u,ea,hu,l1⟩:=l0.o j h5;subst ea;obtain⟨cs,hM⟩:=d8.o;have HM:=ay hM;have e1:=l1 wr hM.bel;have HU:=ay hu;have l2:Hh (Bl w wr):=ay (d7.o.trans (hM.bel.mono d7.o.size));have d6:=ay (f9.o j h5);have l3:=ay (k8.o j h5);have o9:Hh (IS wr u (rows.getD j [])):=ay (hu.below hM.bel);obtain⟨au,cu,eu,-⟩:=id hu;clear hu l1 hM d8 l0 k8 k9;generalize rows.getD j []=row at *;obtain⟨lu,h6⟩:=Ex row.length;rw[<-h6]at eu;subst eu;have h7:=ay h6;clear h6;obtain⟨W5,h8⟩:=Ex (wr.alloc (.cells #[.slice au lu cu,sn] 57));have l4:Hh (AnB wr W5 wr.1.size 0 (.slice au lu cu) none 0):=ay (by rw[h8];exact⟨Bx2.made _ _ _ _,⟨[],oN _ _ _ _⟩,aK⟩);go_upto_region 12 with fail;rw[<-h8];clear h8 e1;go_wp2_with fail;generalize wr=wo at *;go_loopw [46] (λt wx=>∃(i:Nat),i<=nt/\t=ai i/\Hh (∃a c,AnB wo wx wo.1.size i (.slice au lu cu) a c)) (λt _=>nt-(intOf t).toNat);exact⟨0,nZ _,rfl,ay ⟨_,_,l4.o⟩⟩;clear l4;obtain⟨i,hint,rfl,h9⟩:=hrel;by_cases d9:i<nt
  ·have i3:(i:Int)<(nt:Int):=Oo;obtain⟨bT,oT,v0,v1,v2,ea,l5⟩:=HC.o i d9;subst ea;obtain⟨aw,cw,a4⟩:=h9.o;have b7:=ay a4;have p1:Hh (Bl w wr):=ay (l2.o.trans (a4.bel.mono l2.o.size));obtain⟨c0,c1,c2,hI,l6⟩:=l5 wr p1.o;obtain⟨g1,-,g3⟩:=d6.o i d9;have l7:=j1.o i d9;generalize tl.getD i qA=tb at *;have HI:=ay hI;have l8:=ay l6;have l9:=ay g1;have p2:=ay g3;have a5:=ay l7;obtain⟨a0,k0,e0,-⟩:=id hI.vs;obtain⟨a1,k1,e1,-⟩:=id hI.rows;obtain⟨a2,k2,e2,-⟩:=id hI.ws;subst e0 e1 e2;clear l5 hI l6 g1 g3 l7 a4 h9;obtain⟨Wp,b8⟩:=Ex ((wr.alloc (.cells #[.slice a0 tb.vs.length k0,.slice a1 tb.rows.length k1,.slice a2 tb.ws.length k2] 61)).alloc (.cells #[] 3));have p3:Bl wr Wp:=by rw[b8];exact kO (kO (bJ _ _) _) _
   have q8:wr.1.size+1<=Wp.1.size:=by rw[b8];simp
   have i7:Hh (TX Wp wr.1.size (.slice a0 tb.vs.length k0) (.slice a1 tb.rows.length k1) (.slice a2 tb.ws.length k2)):=ay (by
    rw[b8];exact(TX.made _ _ _ _).below (aK))
   have m0:Hh (Wp.ownsRow (wr.1.size+1) 3 1 (.slice (some (az (wr.1.size+1) 0)) 0 0) 0 []):=ay (by
    have U:=oM (base:=wr.1.size+1) (wr.alloc (.cells #[.slice a0 tb.vs.length k0,.slice a1 tb.rows.length k1,.slice a2 tb.ws.length k2] 61)) (#[]:Array Value) 0 (e:=3) (size:=1) Ss Dd rfl;rw[b8];rw[World.size_alloc]at U;exact U)
   have e3:Hh (∀X,Below (wr.1.size+1) Wp X->Bl wr X):=ay λX hX=>p3.trans (hX.mono Oo);have m1:Hh (IS wr (.slice au lu cu) row):=ay (o9.o.below b7.o.bel);have m2:Hh (∀X,Below (wr.1.size+1) Wp X->∀m,m<tb.vs.length->∃(b o q br oo:Nat),a0=some (az b o)/\au=some (az br oo)/\q<lu/\X.cell? (az b (o+m))=some (ai (q:Int))/\X.cell? (az br (oo+q))=some (ai (row.getD q 0))/\tb.vs.getD m 0=(q:Int)):=ay λX hX m hm=>by
    have q9:=(d6.o i d9).2.1;obtain⟨h0,U⟩:=p2.o _ (yC (d:=0) hm);have e:tb.vs.getD m 0=((tb.vs.getD m 0).toNat:Int):=Oo;have hq:(tb.vs.getD m 0).toNat<lu:=by have:=h7.o;omega
    obtain⟨a,c,ev,hh⟩:=HI.o.vs;simp only[Value.slice.injEq]at ev;obtain⟨rfl,-,-⟩:=ev;obtain⟨a',c',m3,p4⟩:=m1.o;simp only[Value.slice.injEq]at m3;obtain⟨rfl,-,-⟩:=m3;rcases hh with h2|⟨b,o,rfl,h2⟩;omega;rcases p4 with h3|⟨br,oo,rfl,h3⟩;have:=h7.o;omega;refine⟨b,o,(tb.vs.getD m 0).toNat,br,oo,rfl,rfl,hq,?_,?_,e⟩;rw[<-e];exact qJ (e3.o X hX) (h2 m hm);exact qJ (e3.o X hX) (h3 _ (by rw[<-h7.o];exact hq))
   have m4:Hh (∀m q,m<tb.vs.length->tb.vs.getD m 0=((q:Nat):Int)->(qm (tb.vs.take (m+1)) row).map ai=(qm (tb.vs.take m) row).map ai++[ai (row.getD q 0)]):=ay λm q hm e=>by
    unfold qm;rw[tA,gE hm,mA,mA];rw[gdR hm]at e;simp[e]
   have r3:tb.vs.length<=6:=zK (qZ a5.o).1;go_upto_region 16 with fail;rw[<-b8];clear b8 c0 c1 c2;have d0:=i7.o.c0;go_wp2_with fail;clear d0;generalize wr=wt at *;go_loopw [16,54] (λu t wx=>∃(m:Nat) (vp:Value),m<=tb.vs.length/\t=ai m/\vp=u/\Hh (wx.ownsRow (wt.1.size+1) 3 1 vp m ((qm (tb.vs.take m) row).map ai)/\Below (wt.1.size+1) Wp wx)) (λ_ t _=>tb.vs.length-(intOf t).toNat);exact⟨0,_,nZ _,rfl,rfl,ay ⟨m0.o,bJ _ _⟩⟩;clear m0;obtain⟨m,vp,r4,rfl,rfl,HT⟩:=hrel;by_cases m5:m<tb.vs.length
   ·have i4:(m:Int)<(tb.vs.length:Int):=Oo;obtain⟨bb,o,q,r5,oo,ea,eb,hq,f1,f2,f3⟩:=m2.o wr HT.o.2 m m5;subst ea eb;have i5:(q:Int)<(lu:Int):=Oo;have p5:=ay (m4.o m q m5 f3);have g8:=HT.o.2.size;clear f3;generalize row.getD q 0=y at *;go_wp2_with (first|(at_builtin;refine wpList_append_lies _ rfl _ _ 24 rfl (wt.1.size+1) 3 i0 (ai 0) 1 8 Tryz.underlying24 hi e9 f7 f8 rfl Dd vp _ _ rfl (HT.o.1.alloc _) (az _ 0) 1 1 [ai y] rfl rfl (qH _ _ _) (λu hu=>by simp at hu;subst hu;rfl) Dd Um Oo Sy _ rfl ?_;intro g3 cp3 w4 a6 a3 j5 j6)|fail);go_roundw;exact⟨m+1,_,Oo,Gg,rfl,ay ⟨by rw[p5.o];exact a6,(HT.o.2.alloc Oo _).grown a3 Sy (λq hq=>(HT.o.1.lt q hq).1)⟩⟩;exact Im
   obtain rfl:m=tb.vs.length:=Oo;have i4:¬((tb.vs.length:Int)<(tb.vs.length:Int)):=Oo;have c9:Hh (Bl wt wr):=ay (e3.o wr HT.o.2);have m6:Hh (IS wr vp (qm tb.vs row)):=ay (by
    have U:=HT.o.1;rw[tL]at U;exact qS (by rw[QE];exact U))
   obtain⟨app,p6,p7⟩:=qG HT.o.1;subst p7;have d1:Hh (TX wr wt.1.size (.slice a0 tb.vs.length k0) (.slice a1 tb.rows.length k1) (.slice a2 tb.ws.length k2)):=ay ⟨(HT.o.2.block _ (Nat.lt_succ_self _)).trans i7.o.blk⟩;have O:Hh (Bx2 57 wr wo.1.size (.slice au lu cu) (.slice aw i cw)):=ay (b7.o.bx.at c9.o b7.o.bx.lt);have r6:tb.rows.length<=10000:=(qZ a5.o).2.1;have m7:tb.ws.length=tb.rows.length:=by
    have h':ql tb.vs tb.rows tb.ws=true:=a5.o;unfold ql at h';rw[bV,dE]at h';exact h'.2
   have m8:=ay m7;clear m7;have m9:Hh (∃bw ow,a2=some (az bw ow)/\∀W,Bl wr W->∀kk,kk<tb.ws.length->W.cell? (az bw (ow+kk))=some (ai (tb.ws.getD kk 0))):=ay (by
    obtain⟨a,c,ev,hh⟩:=HI.o.ws;simp only[Value.slice.injEq]at ev;obtain⟨rfl,-,-⟩:=ev;have h0:0<tb.rows.length:=List.length_pos_of_mem l9.o;rcases hh with h2|⟨b,o,rfl,h2⟩;have:=m8.o;omega;exact⟨b,o,rfl,λW hW kk n1=>qJ (bt c9.o hW) (h2 kk n1)⟩)
   obtain⟨bw,ow,p8,n2⟩:=m9.o;subst p8;have n3:=ay n2;have n4:Hh (Cl 47 #[.slice a1 tb.rows.length k1,.slice app tb.vs.length p6] wr.drew λe w'=>∃(kk:Nat) (y:Int),e=.returned (ai kk)/\kk<tb.ws.length/\w'.cell? (az bw (ow+kk))=some (ai y)/\Bl wr w'):=ay (by
    refine(jT wr.drew _ _ tb.rows (qm tb.vs row) ((l8.o.below c9.o).below (d5 _)) (m6.o.below (d5 _)) (qGr a5.o) Oo (λr hr=>?_)).mono ?_;have:=(qZ a5.o).2.2 r hr;rw[QE];omega;rintro e w' ⟨kk,rfl,p9,d,rfl⟩;have e6:kk<tb.ws.length:=by rw[m8.o];exact qG2 p9 l9.o
    have n5:Bl wr (wr.drew.drewN d):=below_drewN (d5 _) d;exact⟨kk,_,rfl,e6,n3.o _ n5 kk e6,n5⟩)
   have e4:Hh (∀W,Bl wr W->W.cell? (az wo.1.size 1)=some (.slice aw i cw)/\W.cell? (az wt.1.size 1)=some (.slice a1 tb.rows.length k1)/\W.cell? (az wt.1.size 2)=some (.slice (some (az bw ow)) tb.ws.length k2)):=ay λW hW=>⟨(O.o.at hW O.o.lt).c1,(d1.o.below hW).c1,(d1.o.below hW).c2⟩;have d2:Hh (∃xs,∀W,Bl wr W->W.ownsRow (wo.1.size+1) 3 1 (.slice aw i cw) i xs):=ay (by
    obtain⟨xs,U⟩:=b7.o.own;exact⟨xs,λW hW=>qC U λg hg=>(bt c9.o hW).block g (U.lt g hg).2⟩)
   obtain⟨xs,n6⟩:=d2.o;have d3:=ay n6;have r7:wo.1.size<wr.1.size:=O.o.lt;have e7:Hh (∀(w9 K:World) (ob:Obj) (g11 b9:Nat) (ys:List Value),Bl wr w9->(w9.alloc ob).grownBy K (Value.slice aw i cw).ownBlock->K.ownsRow (wo.1.size+1) 3 1 (.slice (some (az g11 0)) (i+1) b9) (i+1) ys->∃a c,AnB wo (K.setCell (az wo.1.size 1) (.slice (some (az g11 0)) (i+1) b9)) wo.1.size (i+1) (.slice au lu cu) a c):=ay λw9 K ob g11 b9 ys I hg n7=>by
    have U:=(O.o.at (kO I ob) O.o.lt).gr ((d3.o w9 I).alloc ob) Dd hg;have n8:Bl wo K:=((b7.o.bel.trans ((bt c9.o (kO I ob)).mono b7.o.bel.size))).grown hg (by have:=I.size;simp;omega) λq hq=>by have:=((d3.o w9 I).lt q hq).1;omega
    exact⟨_,_,U.set1 _,⟨_,qL n7 ⟨_,U.blk⟩ Dd⟩,n8.setCell (nR _) _⟩
   have e8:Hh (∀(w9 K:World) (ob:Obj),Bl wr w9->(w9.alloc ob).grownBy K (Value.slice aw i cw).ownBlock->K.cell? (az wo.1.size 1)=some (.slice aw i cw)/\K.frozen? (az wo.1.size 1)=false):=ay λw9 K ob I hg=>by
    have U:=(O.o.at (kO I ob) O.o.lt).gr ((d3.o w9 I).alloc ob) Dd hg;exact⟨U.c1,U.free 1⟩
   go_upto_region 21 with fail;obtain⟨s0,s1,s2⟩:=e4.o wr.drew (d5 _);have r8:i<=7:=Oo;clear O d1 m6 HI l8 m9 n3 n2 n6 HT i7 m2 m4 m1 e3;go_region_law (first
    |(refine step_append_lies _ Fl _ _ _ Fl (wo.1.size+1) 3 i0 (ai 0) 1 8 Tryz.underlying24 hi e9 f7 f8 rfl Dd (.slice aw i cw) i xs Fl ((d3.o w9 I).alloc _) (az w9.1.size 0) 1 1 [ai y] Fl Fl (qH _ _ _) (λu hu=>by simp at hu;subst hu;rfl) Dd Um Oo (by have:=I.size;simp;omega) _ rfl ?_;intro g11 b9 K a7 V i8 i9;obtain⟨q1,q2⟩:=e8.o w9 K _ I V)
    |(go_simp;go_at_call 47;refine n4.o.mono ?_;rintro e w9 ⟨kk,y,rfl,n1,r9,I⟩;have i6:(kk:Int)<(tb.ws.length:Int):=Oo;obtain⟨t0,t1,t2⟩:=e4.o w9 I;have t3:∀ob,(w9.alloc ob).cell? (az wo.1.size 1)=some (.slice aw i cw):=λob=>(e4.o _ (kO I ob)).1)
    |fail)
   all_goals(
    have HN:Hh (∃a c,AnB wo (K.setCell (az wo.1.size 1) (.slice (some (az g11 0)) (i+1) b9)) wo.1.size (i+1) (.slice au lu cu) a c):=ay (e7.o w9 K _ g11 b9 _ I V a7))
   all_goals clear e7 e8 d3 e4 n4 a7 V i8 i9
   all_goals try simp only[Exit.inBlock,Exit.then]
   all_goals go_wp2_with fail
   all_goals go_roundw
   all_goals first
    |exact⟨i+1,Oo,Gg,HN⟩
    |(simp[intOf];omega)
  obtain rfl:nt=i:=Oo;have i3:¬((nt:Int)<(nt:Int)):=Oo;obtain⟨aw,cw,a4⟩:=h9.o;have b0:=a4.bx.c0;have b1:=a4.bx.c1;have g8:w3.1.size<=wr.1.size:=bM HM.o.bel.size a4.bel.size;have n9:Hh (Bl w3 wr):=ay (HM.o.bel.trans (a4.bel.mono HM.o.bel.size));have d2:Hh (wr.ownsRow w3.1.size 57 2 vA j (cs.flatMap λc=>[c.1,c.2])):=ay (by
   have U:=HM.o.own;rw[l3.o.2]at U;exact qC U λg hg=>a4.bel.block g (U.lt g hg).2)
  have s3:j<=10000:=by have:=j2.o;omega
  go_wp2_with (first|(at_builtin;refine wpList_append_lies _ rfl _ _ 53 rfl w3.1.size 57 iA (.agg #[sn,sn]) 2 48 Tryz.underlying53 hA o5 o6 o7 rfl Dd vA _ _ rfl (d2.o.alloc _) (az _ 0) 1 1 [.slice au lu cu,.slice aw nt cw] rfl rfl (qCB _ _ _ _) (λu hu=>by simp at hu;rcases hu with rfl|rfl <;> rfl) Dd Um Oo Sy _ rfl ?_;intro g9 q0 w9 d4 a8 o3 o4)|fail);have HN:Hh (∃cs,AnM w3 w9 (.slice (some (az g9 0)) (j+1) q0) (rows.take (j+1)) cs):=ay (by
   have q3:Bl w3 w9:=(n9.o.alloc Oo _).grown a8 Sy λq hq=>(d2.o.lt q hq).1;have U:=l3.o;rw[U.1];have h2:=HM.o;have h3:=U.2;generalize rows.take j=RJ at *;subst h3;exact⟨_,h2.push HU.o d4 q3⟩)
  clear d4 a8 o3 o4 d2 n9 HM b0 b1;go_wp2_with fail;go_roundw;exact⟨j+1,_,Oo,Gg,rfl,HN⟩;exact Im
 obtain rfl:nr=j:=Oo;have i2:¬((nr:Int)<(nr:Int)):=Oo;obtain⟨cs,hM⟩:=d8.o;have HF:Hh (AnS wr vA rows/\Bl w wr):=ay ⟨by have:=hM.is;rw[k9.o]at this;exact this,d7.o.trans (hM.bel.mono d7.o.size)⟩;clear hM d8;by_cases hv:0<=VJ
 ·obtain rfl:BV=true:=by rw[j3.o];exact decide_eq_true hv
  go_wp2_with fail;go_ret2;first|exact⟨⟨_,rfl⟩,HF.o.1,HF.o.2⟩|exact⟨_,rfl,HF.o.1,HF.o.2⟩
 obtain rfl:BV=false:=by rw[j3.o];exact decide_eq_false hv
 go_wp2_with fail;go_ret2;first|exact⟨⟨_,rfl⟩,HF.o.1,HF.o.2⟩|exact⟨_,rfl,HF.o.1,HF.o.2⟩
end Go.Proofs.YtcnfapnfmnolbaaGreat
