import Derived.Test.YtnpgdnaeghilhaaGreatEq16
set_option maxHeartbeats 40000000
set_option maxRecDepth 1000000
namespace Go.Proofs.YtnpgdnaeghilhaaGreat
open Go.Proofs.Tryz Go.RowKit
variable {B K:Nat}
structure Bx2(ty:TypeId)(W:World)(p:Nat)(v0 v1:Value):Prop where
 blk:W.1[p]?=some (.cells #[v0,v1] ty (0,0))
section
variable {ty:TypeId} {W W':World} {p:Nat} {v0 v1:Value}
theorem Bx2.lt(h:Bx2 ty W p v0 v1):p<W.1.size:=by
 rcases dL p W.1.size with I|I;exact I;have:=h.blk;rw[dO I]at this;cases this
theorem Bx2.at(h:Bx2 ty W p v0 v1)(hb:Below B W W')(I:p<B):Bx2 ty W' p v0 v1:=⟨(hb.block p I).trans h.blk⟩
theorem Bx2.c0(h:Bx2 ty W p v0 v1):W.cell? (az p 0)=some v0:=by rw[eI h.blk];rfl
theorem Bx2.c1(h:Bx2 ty W p v0 v1):W.cell? (az p 1)=some v1:=by rw[eI h.blk];rfl
theorem Bx2.free(h:Bx2 ty W p v0 v1)j:W.frozen? (az p j)=false:=by unfold World.frozen?;rw[h.blk];simp
theorem Bx2.made ty(w:World)v0 v1:Bx2 ty (w.alloc (.cells #[v0,v1] ty)) w.1.size v0 v1:=⟨eO⟩
theorem Bx2.gr{Y s n u e}{xs:LV}(h:Bx2 ty W p v0 v1)(ho:W.ownsRow B e s u n xs)(I:e≠ty)(K:W.grownBy Y u.ownBlock):Bx2 ty Y p v0 v1:=⟨(K.block p h.lt (own_ne ho ⟨_,h.blk⟩ I)).trans h.blk⟩
theorem Bx2.set1(h:Bx2 ty W p v0 v1)u:Bx2 ty (W.setCell (az p 1) u) p v0 u:=⟨by rw[eN h.blk];rfl⟩
end
theorem uP{A X}(h:Bl A X)o:Bl A (X.alloc o):=h.alloc h.size o
theorem VY{w:World}{x y t}:∀j u,[x,y][j]?=some u->(w.alloc (.cells #[x,y] t)).cell? (((az w.1.size 0):Addr).add j)=some u:=by
 intro j u I;have e:((az w.1.size 0):Addr).add j=(az w.1.size j):=by unfold Addr.add;by_cases K:j=0 <;> simp[K]
 rw[e,eH rfl];match j,I with
 |0,I=>simpa using I
 |1,I=>simpa using I
 |j+2,I=>simp at I
theorem Tryz.infoAn:(Tryz.prog.info? 82).map (λi=>(i.zero,i.size,i.bytes))=some (some (.agg #[sn,sn]),2,48):=Kl
structure AnB(W0 W:World)(p i:Nat)(v0:Value)(lw:LI)(a:OA)(c:Nat):Prop where
 bx:Bx2 82 W p v0 (.slice a i c)
 own:W.ownsRow (p+1) 3 1 (.slice a i c) i (lw.map ai)
 bel:Below p W0 W
theorem VZ w{vt tl}(h:ITsC w vt tl)(hk:K<=6)(hl:tl.length<=7)(c9:okJ tl (upR K)=true):
 Cl 42 #[ai (K:Int),vt] w λe w'=>∃v,e=.returned (.tuple #[v,.bool (decide (0<=zK tl (upR K)))])/\AnS tl w' v (qO tl (upR K))/\Bl w w':=by
 obtain⟨i0,hi,f7,f8,f9⟩:=info_parts Tryz.infoInt;obtain⟨iA,hA,p5,p6,p7⟩:=info_parts Tryz.infoAn;have r7:Tryz.prog.follows .mixedOrders=true:=Kl;have d8:∀W:World,Bl W W.drew:=λW=>(bJ _ _).drew;have HP:Hh (∀j,(upR (j+1)).map ai=(upR j).map ai++[ai (j:Int)]):=ay λj=>by rw[qBG,mA];rfl
 have j4:Hh ((upR 0).map ai=[]):=ay rfl;obtain⟨-,d1,e7⟩:=QH c9;have KJ:Hh (∀W vo,Bl w W->W.ownsRow w.1.size 3 1 vo K ((upR K).map ai)->Cl 58 #[vt,vo] W λe w'=>∃a c,e=.returned (.tuple #[.slice a (qO tl (upR K)).length c,ai (zK tl (upR K))])/\ISS w' (.slice a (qO tl (upR K)).length c) (qO tl (upR K))/\Bl W w'):=ay λW vo hW ho=>by
  apply (qAw W vo (h.its.below hW) (qN (by rw[zO];exact ho)) Oo (by rw[zO];omega) (λt ht=>XW (d1 t ht)) (YQ e7)).mono;rintro e w' ⟨v,rfl,hF,hb⟩;rw[<-(vY c9).1]at hF;rw[<-(vY c9).2];have hI:=hF.self;obtain⟨a,c,e0,-⟩:=id hI;subst e0;exact⟨a,c,rfl,hI,hb⟩
 have g4:Hh (∀j,j<(qO tl (upR K)).length->∀i,i<tl.length->qM (tl.getD i qA).vs ((qO tl (upR K)).getD j [])∈(tl.getD i qA).rows/\((qO tl (upR K)).getD j []).length=K/\∀y∈(tl.getD i qA).vs,0<=y/\y<K):=ay λj hj i hi=>qGe c9 (qz hj) (qz hi);have j5:Hh (∀i,i<tl.length->qW (tl.getD i qA)=true):=ay λi hi=>d1 _ (qz hi);have j6:Hh ((qO tl (upR K)).length<=10000):=ay y8.1;obtain⟨p8,ct,rfl,hc⟩:=h;have HC:Hh (∀i,i<tl.length->∃(b oo:Nat) (v0 v1 v2:Value),p8=some (az b oo)/\(∀W,Bl w W->W.cell? (az b (oo+i*3))=some v0/\W.cell? (az b (oo+i*3+1))=some v1/\W.cell? (az b (oo+i*3+2))=some v2/\IT W v0 v1 v2 (tl.getD i qA).vs (tl.getD i qA).rows (tl.getD i qA).ws/\ISSc W v1 (tl.getD i qA).rows)):=ay λi hi=>by
  rcases hc with h0|⟨b,oo,rfl,h⟩;omega;obtain⟨v0,v1,v2,c0,c1,c2,hI,hS⟩:=h i hi;exact⟨b,oo,v0,v1,v2,rfl,λW hW=>⟨qF hW c0,qF hW c1,qF hW c2,hI.below hW,hS.below hW⟩⟩
 have k3:Hh (∀row i,i<tl.length->wgL (tl.take (i+1)) row=wgL (tl.take i) row++[wgI (tl.getD i qA) row]):=ay λrow i hi=>by
  unfold wgL;rw[tA,gE hi,mA,gdR hi];rfl
 clear hc d1 e7 c9;generalize zK tl (upR K)=VJ at *;obtain⟨BV,g5⟩:=Ex (decide (0<=VJ));rw[<-g5];have k4:=ay g5;clear g5;generalize hrw:qO tl (upR K)=rows at *;clear hrw;obtain⟨nt,g6⟩:=Ex tl.length;rw[<-g6]at hl g4 j5 HC KJ k3 |-;have k5:=ay g6;clear g6;obtain⟨nr,g7⟩:=Ex rows.length;have c7:=ay g7;rw[<-g7]at KJ g4 j6;clear g7;obtain⟨W1,g8⟩:=Ex (w.alloc (.cells #[] 3));have h4:Hh (W1.ownsRow w.1.size 3 1 (sZ w.1.size 0 0 0) 0 []/\Bl w W1):=ay (by rw[g8];exact⟨oM w _ 0 (nR _) Dd rfl,aK⟩);go_enter func42,ntmps42;go_upto_region 2 with fail;rw[<-g8];clear g8;go_wp2;go_loopw [6,7] (λu t wr=>∃(j:Nat) (vo:Value),j<=K/\t=ai j/\vo=u/\Hh (wr.ownsRow w.1.size 3 1 vo j ((upR j).map ai)/\Bl w wr)) (λ_ t _=>K-(intOf t).toNat);exact⟨0,_,nZ _,rfl,rfl,ay ⟨by rw[j4.o];exact h4.1,h4.2⟩⟩;clear h4 j4;obtain⟨j,vo,hj,rfl,rfl,HT⟩:=hrel;by_cases r8:j<K
 .have i1:(j:Int)<K:=Oo;have d9:=ay (HP j);have h5:=HT.2.size;go_wp2_with (at_builtin;refine wpList_append_lies _ rfl _ _ 24 rfl _ 3 _ _ 1 8 underlying24 hi f7 f8 f9 rfl Dd vo _ _ rfl (HT.o.1.alloc _) (az _ 0) 1 1 _ rfl rfl (qH _ _ _) (λu hu=>by simp at hu;subst hu;rfl) Dd Um Oo Sy _ rfl ?_;intro g3 cp3 w4 a9 a6 k6 k7);go_roundw;exact⟨j+1,_,Oo,Gg,rfl,ay ⟨by rw[d9.o];exact a9,(HT.2.alloc h5 _).grown a6 Sy (λq hq=>(HT.1.lt q hq).1)⟩⟩;exact Im
 obtain rfl:K=j:=Oo;have i1:¬((K:Int)<K):=Oo;have k8:=ay (KJ _ _ HT.2 HT.1);clear KJ HP;generalize wr=wA at *;obtain⟨ao,co,eo⟩:=qG HT.1;subst eo;go_upto_region 7 with (go_at_call 58;apply k8.o.mono;rintro e w3 ⟨ar,cr,rfl,k9,l0⟩);have e3:=ay (bt HT.2 l0);have l1:=ay k9;clear k8 l0 k9 HT;obtain⟨W4,h6⟩:=Ex (w3.alloc (.cells #[] 82));have l2:Hh (AnM tl w3 W4 (sZ w3.1.size 0 0 0) (rows.take 0) []):=ay (by rw[h6];exact⟨rfl,oM _ _ 0 (nR _) Dd rfl,λi hi=>by simp at hi,aK⟩);have l3:Hh (∀j,j<nr->rows.take (j+1)=rows.take j++[rows.getD j []]/\(rows.take j).length=j):=ay λj hj=>⟨by rw[tA,gE (by rw[<-c7.o];exact hj),gdR (by rw[<-c7.o];exact hj)];rfl,by rw[bZ,<-c7.o];omega⟩;have l4:Hh (rows.take nr=rows):=ay (by rw[c7.o,tL]);have l5:Hh (∀j,j<nr->∃(b o:Nat) (u:Value),ar=some (az b o)/\IS w3 u (rows.getD j [])/\∀W,Bl w3 W->W.cell? (az b (o+j))=some u):=ay λj hj=>by
  obtain⟨a,c,e,hh⟩:=l1.o;simp only[Value.slice.injEq]at e;obtain⟨rfl,-,-⟩:=e;rcases hh with h0|⟨b,o,rfl,hh⟩;have:=c7.o;omega;obtain⟨u,V,h2⟩:=hh j (by rw[<-c7.o];exact hj);exact⟨b,o,u,rfl,h2,λW hW=>qF hW V⟩
 go_upto_region 8 with fail;rw[<-h6];clear h6 l1;go_wp2;go_loopw [10,38] (λu t wr=>∃(j:Nat) (vA:Value),j<=nr/\t=ai j/\vA=u/\Hh (∃cs,AnM tl w3 wr vA (rows.take j) cs)) (λ_ t _=>nr-(intOf t).toNat);exact⟨0,_,nZ _,rfl,rfl,ay ⟨_,l2⟩⟩;clear l2;obtain⟨j,vA,r9,rfl,rfl,e4⟩:=hrel;by_cases h7:j<nr
 .have i2:(j:Int)<nr:=Oo;obtain⟨br,s3,u,ea,hu,l6⟩:=l5 j h7;subst ea;obtain⟨cs,hM⟩:=e4.o;have HM:=ay hM;have e1:=l6 _ hM.bel;have HU:=ay hu;have l7:=ay (e3.o.trans (hM.bel.mono e3.o.size));have d9:=ay (g4 j h7);have l8:=ay (l3 j h7);have p9:=ay (hu.below hM.bel);obtain⟨au,cu,eu,-⟩:=id hu;clear hu l6 hM e4 l5 l3 l4;generalize rows.getD j []=row at *;obtain⟨lu,h8⟩:=Ex row.length;rw[<-h8]at eu;subst eu;have h9:=ay h8;clear h8;obtain⟨W5,i7⟩:=Ex (wr.alloc (.cells #[.slice au lu cu,sn] 82));have l9:Hh (AnB wr W5 wr.1.size 0 (.slice au lu cu) (wgL (tl.take 0) row) none 0):=ay (by rw[i7];exact⟨Bx2.made _ _ _ _,oN _ _ _ _,aK⟩);go_upto_region 12 with fail;rw[<-i7];clear i7 e1;go_wp2_with fail;generalize wr=wo at *;go_loopw [46] (λt wx=>∃(i:Nat),i<=nt/\t=ai i/\Hh (∃a c,AnB wo wx wo.1.size i (.slice au lu cu) (wgL (tl.take i) row) a c)) (λt _=>nt-(intOf t).toNat);exact⟨0,nZ _,rfl,ay ⟨_,_,l9⟩⟩;clear l9;obtain⟨i,hint,rfl,i8⟩:=hrel;by_cases d2:i<nt
  .have i3:(i:Int)<nt:=Oo;obtain⟨bT,oT,v0,v1,v2,ea,m0⟩:=HC i d2;subst ea;obtain⟨aw,cw,a3⟩:=i8.o;have b7:=ay a3;obtain⟨c0,c1,c2,hI,m1⟩:=m0 _ (l7.o.trans (a3.bel.mono l7.o.size));obtain⟨g1,-,g3⟩:=d9 i d2;have m2:=j5 i d2;have m3:=ay (k3 row i d2);generalize tl.getD i qA=tb at *;have HI:=ay hI;have m4:=ay m1;have m5:=ay g1;have q3:=ay g3;have a4:=ay m2;obtain⟨a0,k0,e0,-⟩:=id hI.vs;obtain⟨a1,k1,e1,-⟩:=id hI.rows;obtain⟨a2,k2,e2,-⟩:=id hI.ws;subst e0 e1 e2;clear m0 hI m1 g1 g3 m2 a3 i8;obtain⟨Wp,c8⟩:=Ex ((wr.alloc (.cells #[.slice a0 tb.vs.length k0,.slice a1 tb.rows.length k1,.slice a2 tb.ws.length k2] 58)).alloc (.cells #[] 3));have q4:Bl wr Wp:=by rw[c8];exact uP (uP (bJ _ _) _) _
   have s4:wr.1.size+1<=Wp.1.size:=by rw[c8];simp
   have i9:Hh (TX Wp wr.1.size (.slice a0 tb.vs.length k0) (.slice a1 tb.rows.length k1) (.slice a2 tb.ws.length k2)):=ay (by
    rw[c8];exact(TX.made _ _ _ _).below (aK))
   have m6:Hh (Wp.ownsRow (wr.1.size+1) 3 1 (sZ (wr.1.size+1) 0 0 0) 0 []):=ay (by
    have V:=oM (base:=wr.1.size+1) (wr.alloc (.cells #[.slice a0 tb.vs.length k0,.slice a1 tb.rows.length k1,.slice a2 tb.ws.length k2] 58)) (#[]) 0 (e:=3) (size:=1) Ss Dd rfl;rw[c8];rw[World.size_alloc]at V;exact V)
   have e5:Hh (∀X,Below (wr.1.size+1) Wp X->Bl wr X):=ay λX hX=>q4.trans (hX.mono Oo);have m8:Hh (∀X,Below (wr.1.size+1) Wp X->∀m,m<tb.vs.length->∃(b o q br oo:Nat),a0=some (az b o)/\au=some (az br oo)/\q<lu/\X.cell? (az b (o+m))=some (ai (q:Int))/\X.cell? (az br (oo+q))=some (ai (row.getD q 0))/\tb.vs.getD m 0=(q:Int)):=ay λX hX m hm=>by
    have s5:=(d9 i d2).2.1;obtain⟨h0,V⟩:=q3 _ (qz (d:=0) hm);have e:tb.vs.getD m 0=((tb.vs.getD m 0).toNat:Int):=Oo;have hq:(tb.vs.getD m 0).toNat<lu:=O1 h9.o
    obtain⟨a,c,ev,hh⟩:=HI.o.vs;simp only[Value.slice.injEq]at ev;obtain⟨rfl,-,-⟩:=ev;obtain⟨a',c',m9,q5⟩:=(p9.o.below b7.o.bel);simp only[Value.slice.injEq]at m9;obtain⟨rfl,-,-⟩:=m9;rcases hh with h2|⟨b,o,rfl,h2⟩;omega;rcases q5 with h3|⟨br,oo,rfl,h3⟩;have:=h9.o;omega;refine⟨b,o,(tb.vs.getD m 0).toNat,br,oo,rfl,rfl,hq,?_,?_,e⟩;rw[<-e];exact qF (e5 X hX) (h2 m hm);exact qF (e5 X hX) (h3 _ (by rw[<-h9.o];exact hq))
   have n3:Hh (∀m q,m<tb.vs.length->tb.vs.getD m 0=((q:Nat):Int)->(qM (tb.vs.take (m+1)) row).map ai=(qM (tb.vs.take m) row).map ai++[ai (row.getD q 0)]):=ay λm q hm e=>by
    unfold qM;rw[tA,gE hm,mA,mA];rw[gdR hm]at e;simp[e]
   have s6:=xz (qL a4).1;go_upto_region 16 with fail;rw[<-c8];clear c8 c0 c1 c2;have d0:=i9.o.c0;go_wp2_with fail;clear d0;generalize wr=wt at *;go_loopw [16,54] (λu t wx=>∃(m:Nat) (vp:Value),m<=tb.vs.length/\t=ai m/\vp=u/\Hh (wx.ownsRow (wt.1.size+1) 3 1 vp m ((qM (tb.vs.take m) row).map ai)/\Below (wt.1.size+1) Wp wx)) (λ_ t _=>tb.vs.length-(intOf t).toNat);exact⟨0,_,nZ _,rfl,rfl,ay ⟨m6,bJ _ _⟩⟩;clear m6;obtain⟨m,vp,s7,rfl,rfl,HT⟩:=hrel;by_cases n4:m<tb.vs.length
   .have i4:(m:Int)<(tb.vs.length:Int):=Oo;obtain⟨bb,o,q,s8,oo,ea,eb,hq,f1,f2,f3⟩:=m8 _ HT.2 m n4;subst ea eb;have i5:(q:Int)<lu:=Oo;have q6:=ay (n3 m q n4 f3);have h5:=HT.2.size;clear f3;generalize row.getD q 0=y at *;go_wp2_with (at_builtin;refine wpList_append_lies _ rfl _ _ 24 rfl (wt.1.size+1) 3 i0 (ai 0) 1 8 underlying24 hi f7 f8 f9 rfl Dd vp _ _ rfl (HT.o.1.alloc _) (az _ 0) 1 1 [ai y] rfl rfl (qH _ _ _) (λu hu=>by simp at hu;subst hu;rfl) Dd Um Oo Sy _ rfl ?_;intro g3 cp3 w4 a9 a6 k6 k7);go_roundw;exact⟨m+1,_,Oo,Gg,rfl,ay ⟨by rw[q6.o];exact a9,(HT.2.alloc Oo _).grown a6 Sy (λq hq=>(HT.1.lt q hq).1)⟩⟩;exact Im
   obtain rfl:m=tb.vs.length:=Oo;have i4:¬((tb.vs.length:Int)<(tb.vs.length:Int)):=Oo;have d3:=ay (e5 _ HT.2);have n5:=ay (by
    have V:=HT.1;rw[tL]at V;exact qN (by rw[vd];exact V))
   obtain⟨app,q7,q8⟩:=qG HT.1;subst q8;have d4:Hh (TX wr wt.1.size (.slice a0 tb.vs.length k0) (.slice a1 tb.rows.length k1) (.slice a2 tb.ws.length k2)):=ay ⟨(HT.2.block _ (Nat.lt_succ_self _)).trans i9.o.blk⟩;have M:=ay (b7.o.bx.at d3 b7.o.bx.lt);have s9:=(qL a4).2.1;have n6:tb.ws.length=tb.rows.length:=by
    have h':ql tb.vs tb.rows tb.ws=true:=a4;unfold ql at h';rw[bV,dE]at h';exact h'.2
   have n7:=ay n6;clear n6;have n8:Hh (∃bw ow,a2=some (az bw ow)/\∀W,Bl wr W->∀kk,kk<tb.ws.length->W.cell? (az bw (ow+kk))=some (ai (tb.ws.getD kk 0))):=ay (by
    obtain⟨a,c,ev,hh⟩:=HI.o.ws;simp only[Value.slice.injEq]at ev;obtain⟨rfl,-,-⟩:=ev;have h0:=List.length_pos_of_mem m5;rcases hh with h2|⟨b,o,rfl,h2⟩;have:=n7.o;omega;exact⟨b,o,rfl,λW hW kk n9=>qF (bt d3 hW) (h2 kk n9)⟩)
   obtain⟨bw,ow,q9,o3⟩:=n8.o;subst q9;have o5:Hh (Cl 45 #[.slice a1 tb.rows.length k1,.slice app tb.vs.length q7] wr.drew λe w'=>∃(kk:Nat),e=.returned (ai kk)/\kk<tb.ws.length/\w'.cell? (az bw (ow+kk))=some (ai (wgI tb row))/\Bl wr w'):=ay (by
    refine(uR _ _ _ ((m4.o.below d3.o).below (d8 _)) (n5.o.below (d8 _)) (qFB a4.o) Oo (λr hr=>?_)).mono ?_;have:=(qL a4).2.2 r hr;rw[vd];omega;rintro e w' ⟨kk,rfl,r3,d,rfl⟩;obtain⟨r4,d5⟩:=qG4 (qFB a4) m5 (λr hr=>by have:=(qL a4).2.2 r hr;rw[vd];omega) r3;rw[<-n7.o]at d5;have hb':Bl wr (wr.drew.drewN d):=below_drewN (d8 _) d;exact⟨kk,rfl,d5,by unfold wgI;rw[<-r4];exact o3 _ hb' _ d5,hb'⟩)
   have e6:Hh (∀W,Bl wr W->W.cell? (az wo.1.size 1)=some (.slice aw i cw)/\W.cell? (az wt.1.size 1)=some (.slice a1 tb.rows.length k1)/\W.cell? (az wt.1.size 2)=some (sZ bw ow tb.ws.length k2)):=ay λW hW=>⟨(M.o.at hW M.o.lt).c1,(d4.o.below hW).c1,(d4.o.below hW).c2⟩;have a8:Hh (∀W,Bl wr W->W.ownsRow (wo.1.size+1) 3 1 (.slice aw i cw) i ((wgL (tl.take i) row).map ai)):=ay (λW hW=>qD b7.o.own λg hg=>(bt d3 hW).block g (b7.o.own.lt g hg).2);have j0:Hh ((wgL (tl.take (i+1)) row).map ai=(wgL (tl.take i) row).map ai++[ai (wgI tb row)]):=ay (by rw[m3.o,mA];rfl);generalize wgI tb row=y at *;obtain⟨xs,o6⟩:=Ex ((wgL (tl.take i) row).map ai);rw[<-o6]at a8 j0;clear o6 m3;have d6:=a8;have t4:=M.o.lt;have e8:Hh (∀(w9 O:World) (ob:Obj) (g11 d7:Nat),Bl wr w9->(w9.alloc ob).grownBy O (Value.slice aw i cw).ownBlock->O.ownsRow (wo.1.size+1) 3 1 (sZ g11 0 (i+1) d7) (i+1) (xs++[ai y])->∃a c,AnB wo (O.setCell (az wo.1.size 1) (sZ g11 0 (i+1) d7)) wo.1.size (i+1) (.slice au lu cu) (wgL (tl.take (i+1)) row) a c):=ay λw9 O ob g11 d7 I hg o7=>by
    have V:=(M.o.at (uP I _) M.o.lt).gr ((d6 _ I).alloc ob) Dd hg
    exact⟨_,_,V.set1 _,by rw[j0.o];exact qI o7 ⟨_,V.blk⟩ Dd,(((b7.o.bel.trans ((bt d3 (uP I ob)).mono b7.o.bel.size))).grown hg (by have:=I.size;simp;omega) λq hq=>by have:=((d6 _ I).lt q hq).1;omega).setCell (nR _) _⟩
   have e9:Hh (∀(w9 O:World) (ob:Obj),Bl wr w9->(w9.alloc ob).grownBy O (Value.slice aw i cw).ownBlock->O.cell? (az wo.1.size 1)=some (.slice aw i cw)/\O.frozen? (az wo.1.size 1)=false):=ay λw9 O ob I hg=>by
    have V:=(M.o.at (uP I _) M.o.lt).gr ((d6 _ I).alloc ob) Dd hg;exact⟨V.c1,V.free 1⟩
   go_upto_region 21 with fail;obtain⟨s0,s1,s2⟩:=e6 _ (d8 _);have t5:i<=7:=Oo;clear M d4 n5 HI m4 n8 o3 HT i9 m8 n3 e5;go_region_law (first
    |(refine step_append_lies _ Fl _ _ _ Fl (wo.1.size+1) 3 i0 (ai 0) 1 8 underlying24 hi f7 f8 f9 rfl Dd (.slice aw i cw) i xs Fl ((d6.o w9 I).alloc _) (az w9.1.size 0) 1 1 [ai y] Fl Fl (qH _ _ _) (λu hu=>by simp at hu;subst hu;rfl) Dd Um Oo (by have:=I.size;simp;omega) _ rfl ?_;intro g11 d7 O b9 a5 j1 j2;obtain⟨q1,q2⟩:=e9 _ O _ I a5)
    |(go_simp;go_at_call 45;apply o5.o.mono;rintro e w9 ⟨kk,rfl,n9,t6,I⟩;have i6:(kk:Int)<(tb.ws.length:Int):=Oo;obtain⟨t0,t1,t2⟩:=e6 _ I;have t3:=λob=>(e6 _ (uP I ob)).1)
    |fail)
   all_goals(
    have HN:=ay (e8 _ O _ _ _ I a5 b9))
   all_goals clear e8 e9 d6 a8 j0 e6 o5 b9 a5 j1 j2
   all_goals try simp only[Exit.inBlock,Exit.then]
   all_goals go_wp2_with fail
   all_goals go_roundw
   all_goals first
    |exact⟨i+1,Oo,Gg,HN⟩
    |(simp[intOf];omega)
  obtain rfl:nt=i:=Oo;have i3:¬((nt:Int)<nt):=Oo;obtain⟨aw,cw,a3⟩:=i8.o;have b0:=a3.bx.c0;have b1:=a3.bx.c1;have h5:=bM HM.o.bel.size a3.bel.size;have a8:=ay (by
   have V:=HM.o.own;rw[l8.o.2]at V;exact qD V λg hg=>a3.bel.block g (V.lt g hg).2)
  have t7:j<=10000:=O1 j6.o
  go_wp2_with (at_builtin;refine wpList_append_lies _ rfl _ _ 78 rfl w3.1.size 82 iA (.agg #[sn,sn]) 2 48 underlying78 hA p5 p6 p7 rfl Dd vA _ _ rfl (a8.o.alloc _) (az _ 0) 1 1 [.slice au lu cu,.slice aw nt cw] rfl rfl (VY) (λu hu=>by simp at hu;rcases hu with rfl|rfl <;> rfl) Dd Um Oo Sy _ rfl ?_;intro g9 r5 w9 b8 a7 p1 p2);have j3:Hh (∀{B:Nat} {v:Value} {n:Nat} {xs:LV},wr.ownsRow B 3 1 v n xs->w9.ownsRow B 3 1 v n xs):=ay λh=>qD h λg hg=>zD a7 (h.lt g hg).2 (own_ne a8 (qK h hg) Dd);have p4:=ay (j3.o (by
   have V:=a3.own;rw[k5.o,tL]at V;exact V))
  have HN:Hh (∃cs,AnM tl w3 w9 (sZ g9 0 (j+1) r5) (rows.take (j+1)) cs):=ay (by
   have V:=l8.o;rw[V.1];have h3:=V.2;rw[k5.o]at b8;generalize rows.take j=RJ at *;subst h3;exact⟨_,HM.o.push (λh=>(λh=>j3 (qD h λg hg=>a3.bel.block g (h.lt g hg).2)) h) p4 HU b8 (((ay (HM.o.bel.trans (a3.bel.mono HM.o.bel.size))).o.alloc Oo _).grown a7 Sy λq hq=>(a8.o.lt q hq).1)⟩)
  clear b8 a7 p1 p2 a8 HM b0 b1 j3 p4;go_wp2;go_roundw;exact⟨j+1,_,Oo,Gg,rfl,HN⟩;exact Im
 obtain rfl:nr=j:=Oo;have i2:¬((nr:Int)<nr):=Oo;obtain⟨cs,hM⟩:=e4.o;have HF:Hh (AnS tl wr vA rows/\Bl w wr):=ay ⟨by have:=hM.is;rw[l4.o]at this;exact this,e3.o.trans (hM.bel.mono e3.o.size)⟩;clear hM e4;by_cases hv:0<=VJ
 .obtain rfl:BV=true:=by rw[k4.o];exact fD hv
  go_wp2;go_ret2;first|exact⟨⟨_,rfl⟩,HF.o.1,HF.o.2⟩|exact⟨_,rfl,HF.1,HF.2⟩
 obtain rfl:BV=false:=by rw[k4.o];exact fC hv
 go_wp2;go_ret2;first|exact⟨⟨_,rfl⟩,HF.o.1,HF.o.2⟩|exact⟨_,rfl,HF.1,HF.2⟩
