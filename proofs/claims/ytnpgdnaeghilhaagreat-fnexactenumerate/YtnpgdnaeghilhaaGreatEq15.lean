import Derived.Test.YtnpgdnaeghilhaaGreatEq05
set_option maxHeartbeats 40000000
set_option maxRecDepth 1000000
namespace Go.Proofs.YtnpgdnaeghilhaaGreat
open Go.Proofs.Tryz Go.RowKit
theorem Ju w{a0 a1 a2 b0}b1{b2 K wa vb wb I rb}(hA:IT w a0 a1 a2 K I wa)(hB:IT w b0 b1 b2 vb rb wb)(j4:K.length<=1099511627776)(m9:qS I)(j5:vb.length<=1099511627776)(n3:qS rb)(g5:ql K I wa=true)(j6:ql vb rb wb=true):
 Cl 89 #[.agg #[a0,a1,a2],.agg #[b0,b1,b2]] w λe w'=>∃x0 x1 x2 us,e=.returned (.agg #[x0,x1,x2])/\TQ w' w.1.size x0 x1 x2 us K (kpR (Z8 K vb I rb) I I.length) (kpW (Z8 K vb I rb) wa I.length)/\Bl w w':=by
 have⟨i0,hi,r4,r5,r6⟩:=aX Tryz.infoInt;have⟨iS,hj,r7,r8,r9⟩:=aX Tryz.infoIS;have⟨W1,h5⟩:=Ex (three w a0 a1 a2 b0 b1 b2);have⟨a9,k3,k4,k5⟩:=qGh w a0 a1 a2 b0 b1 b2;rw[<-h5]at a9 k3 k4 k5;change Hh _ at k3 k4 k5 a9;have⟨k6,x4,k7⟩:=qL g5;have⟨k8,x5,n4⟩:=qL j6;have s4:=xz k6;have s5:=xz k8;have k9:=xK k6;have hpb:=xK k8;have n5:wa.length=I.length:=by
  unfold ql at g5;simp only[bV,dE]at g5;omega
 have l1:=ay (vQ _ K I (hA.below a9) j4 m9);have l2:=ay λW hW=>vQ W _ _ (hB.below (bt a9 hW)) j5 n3;rw[g5]at l1;rw[j6]at l2;have⟨sh,d5⟩:=Ex (shr K vb);have⟨pl,d6⟩:=Ex (plc (λi=>decide (K.getD i 0∈vb)) K.length);have⟨keys,a3⟩:=Ex (Ya K vb rb);have x7:sh.length<=6:=by have:=j7 K vb;rw[d5];omega
 have v9:pl.length<=6:=by rw[d6];have:=xq (λi=>decide (K.getD i 0∈vb)) K.length;omega
 have y0:keys.length<=10000:=by have:=qIK K vb rb;rw[a3];omega
 have l3:∀r∈keys,r.length=sh.length:=by rw[a3,d5];exact qGi
 have KP:Hh (∀W,Bl W1 W->Cl 121 #[a0,b0] W λe w'=>∃v,e=.returned v/\w'.ownsRow W.1.size 3 1 v pl.length (pl.map ai)/\Bl W w'):=λW hW=>by
  rw[d6];exact zq W _ _ K _ (hA.vs.below (bt a9 hW)) (hB.vs.below (bt a9 hW)) j4 j5
 have KV:=ay λW u hW hu=>by
  have h1:=xZ W _ u K pl (hA.vs.below (bt a9 hW)) hu Oo (by rw[d6];exact qFJ K _);have e:atP K pl=sh:=by rw[d6,d5];exact jt K _
  rw[e]at h1;exact h1
 have n6:Hh (∀W u,Bl W1 W->IS W u sh->Cl 126 #[.agg #[b0,b1,b2],u] W λe w'=>∃v uo,e=.returned v/\RQ w' W.1.size v uo keys/\Bl W w'):=λW u hW hu=>by
  have h1:=uV W u (hB.below (bt a9 hW)) hu Oo Oo Oo n4;rw[d5]at h1;rw[JA hpb (Z9 k9) (λx=>uA)]at h1;rw[a3];exact h1
 have n7:Hh (∀W u,ISS W u keys->Cl 125 #[u] W λe w'=>∃c,e=.returned (.pointer c)/\TC W w' keys c/\Bl W w'):=λW u hu=>
  XK W u _ hu (by rw[a3];exact qIJ K) Oo (λr hr=>O1 (l3 r hr))
 have n8:=ay λW hW=>uC W _ K (hA.vs.below (bt a9 hW)) Oo;have n9:=ay λW u up j l4 hu s6=>by
  have hm:I.getD j []∈I:=by rw[gD,gE l4];exact gM _
  have h1:=xZ W u up (I.getD j []) pl hu s6 Oo (by rw[k7 _ hm,d6];exact qFJ K vb);have e:atP (I.getD j []) pl=qQ K sh (I.getD j []):=by rw[d6,d5];exact qC6 k9
  rw[e]at h1;exact h1
 have KH:Hh (∀W3 w4 W c u j,TC W3 w4 keys c->Bl w4 W->IS W u (qQ K sh (I.getD j []))->Cl 127 #[.pointer c,u] W λe w'=>e=.returned (.bool (Z8 K vb I rb j))/\Bl W w'):=λW3 w4 W c u j hT hW hu=>by
  have h1:=hT.has hW l3 Oo Oo hu (vZ);unfold Z8 UZ;rw[<-a3,<-d5];exact h1
 have o3:Hh (∀W u j,j<I.length->IS W u (I.getD j [])->Cl 123 #[u] W λe w'=>∃v,e=.returned v/\w'.ownsRow W.1.size 3 1 v (I.getD j []).length ((I.getD j []).map ai)/\Bl W w'):=λW u j l4 hu=>by
  have hm:I.getD j []∈I:=by rw[gD,gE l4];exact gM _
  exact uC W u _ hu (by rw[k7 _ hm];omega)
 obtain⟨p0,k0,e0,-⟩:=hA.vs;have s7:=hA.rows;have⟨p1,k1,e1,hc1⟩:=hA.rows;have⟨p2,k2,e2,o4⟩:=hA.ws;obtain⟨q0,m0,f0,-⟩:=hB.vs;obtain⟨q1,m1,f1,-⟩:=hB.rows;obtain⟨q2,m2,f2,-⟩:=hB.ws;have o5:Hh (∀W,Bl w W->∀j,j<I.length->∃(b o:Nat) (u:Value),p1=some (az b o)/\W.cell? (az b (o+j))=some u/\IS W u (I.getD j [])):=λW hW j hj=>by
  rcases hc1 with h0|⟨b,o,rfl,h⟩;omega;have⟨u,h1,h2⟩:=h j hj;exact⟨b,o,u,rfl,(hW.cell (bL w _ h1)).trans h1,h2.below hW⟩
 have o6:Hh (∀W,Bl w W->∀j,j<I.length->∃(b o:Nat),p2=some (az b o)/\W.cell? (az b (o+j))=some (ai (wa.getD j 0))):=λW hW j hj=>by
  rcases o4 with h0|⟨b,o,rfl,h⟩;omega;exact⟨b,o,rfl,(hW.cell (bL w _ (h j Oo))).trans (h j Oo)⟩
 unfold three at h5;subst e0 e1 e2 f0 f1 f2;rw[n5]at *;generalize Z8 K vb I rb=P at *;clear hA hB s7 hc1 o4 j4 m9 j5 n3 k7 n4 l3 k9 hpb k6 k8 g5 j6 d5 d6 a3 n5 s4 s5;have d0:=k3.o.c0;have d1:=k3.o.c1;have d2:=k3.o.c2;generalize I.length=n at *;generalize hl0:K.length=l0 at *;change Hh _ at hl0;generalize vb.length=n0 at *;generalize rb.length=n1 at *;generalize wb.length=n2 at *;go_enter func89,ntmps89;go_upto_region 1 with fail;rw[<-h5];clear h5;go_wp2_with fail;apply l1.o.mono;rintro e w2 ⟨rfl,f9⟩;have o8:=ay f9;have i5:=ay (l2.o w2 f9);have d0:=(k4.o.below f9).c0;have d1:=(k4.o.below f9).c1;have d2:=(k4.o.below f9).c2;clear f9 l1 l2;go_wp2_with fail;apply i5.o.mono;rintro e w3 ⟨rfl,o9⟩;have g6:=ay (bt o8.o o9);clear o9 i5 o8 d0 d1 d2;have d0:=(k3.o.below g6.o).c0;have d1:=(k4.o.below g6.o).c0;have p3:=ay (KP.o w3 g6.o);go_wp2_with fail;apply p3.o.mono;rintro e w4 ⟨v4,rfl,l5,p4⟩;have d7:=ay (bt g6.o p4);have l6:=ay (qN l5);have⟨a4,c4,e4⟩:=qt l5;subst e4;clear l5 p4 KP p3 g6 d0 d1;go_upto_region 4 with fail;go_cut [6] from 24 to 30 (λv wx=>∃c,v=.pointer c/\Hh (∃W3,TC W3 wx keys c/\Bl W1 wx/\IS wx (.slice a4 pl.length c4) pl))
 case first=>
  have d0:=(k3.o.below d7.o).c0;have g0:=(k4.o.below d7.o).c0;have g1:=(k4.o.below d7.o).c1;have g2:=(k4.o.below d7.o).c2;go_region_law (first
   |(go_simp;go_at_call 91;(with_reducible refine(KV.o _ _ (d7.o.drew) (l6.o.below eB.drew)).mono ?_);rintro e w5 ⟨u5,rfl,l7,i6⟩;have p5:=QO i6;have s8:=ay (qN l7);have g7:=ay (bt d7.o p5);have y1:=(k4.o.below g7.o).c0;have y2:=(k4.o.below g7.o).c1;have y3:=(k4.o.below g7.o).c2;have⟨a5,c5,e5⟩:=qt l7;subst e5;clear l7 i6)
   |(go_simp;go_at_call 126;(with_reducible refine(n6.o _ _ g7.o s8.o).mono ?_);rintro e w6 ⟨u6,y4,rfl,l8,p6⟩;have s9:=ay (l8.rs.iss eB);have t0:=ay (bt g7.o p6);have⟨a6,c6,e6⟩:=l8.sl;subst e6;clear l8)
   |(go_simp;go_at_call 125;(with_reducible refine(n7.o _ _ s9.o).mono ?_);rintro e w7 ⟨c7,rfl,h7,p7⟩)
   |fail)
  all_goals
   go_wp2
   go_meet
   exact⟨_,rfl,ay ⟨_,h7,bt t0.o p7,l6.o.below (bt (bt p5 p6) p7)⟩⟩
 case rest=>
  obtain⟨c7,rfl,HT⟩:=hcut;have⟨W3,h7,p8,p9⟩:=HT.o;have q3:=ay h7;have b8:=ay p8;have q4:=ay p9;clear HT h7 p8 p9 KV n6 n7 d7 l6;generalize wc=w7 at *;have d0:=(k3.o.below b8.o).c0;have i7:=ay (n8.o w7 b8.o);go_wp2_with fail;apply i7.o.mono;rintro e w8 ⟨v8,rfl,l9,m3⟩;have⟨a8,c8,e8⟩:=qt l9;subst e8;have m4:=m3.size;have g4:Hh (Bl w7 (w8.alloc (.cells #[.slice a8 l0 c8,sn,sn] 58))/\KX (w8.alloc (.cells #[.slice a8 l0 c8,sn,sn] 58)) w7.1.size w8.1.size (.slice a8 l0 c8) sn sn [] K [] []):=⟨m3.alloc m4 _,KX.made (by rw[hl0.o];exact l9) m4⟩;clear l9 m3 n8 i7 d0 hl0;go_upto_region 6 with fail;have⟨pk,q5⟩:=Ex w8.1.size;rw[<-q5]at g4 m4 |-;generalize w8.alloc (.cells #[.slice a8 l0 c8,sn,sn] 58)=W9 at g4 |-;clear q5;have d1:=(k3.o.below (bt b8.o g4.o.1)).c1;have m5:Hh (kpR P I 0=[]/\kpW P wa 0=[]):=⟨rfl,rfl⟩;go_wp2_with fail;clear d1;go_loopw [38] (λt wr=>∃i:Nat,i<=n/\t=ai i/\Hh (∃vR vW us,Bl w7 wr/\KX wr w7.1.size pk (.slice a8 l0 c8) vR vW us K (kpR P I i) (kpW P wa i))) (λt _=>n-(intOf t).toNat);exact⟨0,eC,rfl,ay ⟨_,_,_,g4.o.1,by rw[m5.o.1,m5.o.2];exact g4.o.2⟩⟩;clear g4 m5;obtain⟨i,y5,rfl,HT⟩:=hrel;have⟨vR,vW,us,hB,hK⟩:=HT.o;have HB:=ay hB;have HK:=ay hK;clear HT hB hK;by_cases h8:i<n
  .have i1:=aV h8;have⟨b,o,u,ea,c1,hu⟩:=o5.o wr (bt a9.o (bt b8.o HB.o)) i h8;subst ea;have HU:=ay hu;have i8:=ay (n9.o wr u _ i h8 hu (q4.o.below HB.o));have q6:=ay λW hu=>o3.o W u i h8 hu;have t1:=ay λW v hW hv=>KH.o W3 w7 W c7 v i q3.o hW hv;have q7:Hh (P i=true->kpR P I (i+1)=kpR P I i++[I.getD i []]/\kpW P wa (i+1)=kpW P wa i++[wa.getD i 0]):=λh=>⟨qC7 I h,qIL wa h⟩;have q8:Hh (P i=false->kpR P I (i+1)=kpR P I i/\kpW P wa (i+1)=kpW P wa i):=λh=>⟨qBV I h,qGj wa h⟩;have z3:=qIM P I i;have z4:=qIN P wa i;obtain⟨au,cu,rfl,-⟩:=hu;generalize I.getD i []=row at *;generalize hlr:row.length=lr at *;have t2:=ay hlr;clear hlr;generalize qQ K sh row=prow at *;go_wp2_with fail;apply i8.o.mono;rintro e t3 ⟨v10,rfl,g8,e3⟩;have e7:=ay (bt HB.o e3);have g9:=ay (HK.o.below e3);have i9:=ay (HU.o.below e3);have b9:=ay (t1.o t3 v10 e7.o (qN g8));have⟨z5,z7,t4⟩:=qt g8;subst t4;clear i8 g8 e3 HB HK HU c1;cases hP:P i
   .rw[hP]at b9;have HN:=ay (q8.o hP);clear hP;go_wp2_with fail;apply b9.o.mono;rintro e h9 ⟨rfl,a7⟩;have HF:Hh (∃vR vW us,Bl w7 h9/\KX h9 w7.1.size pk (.slice a8 l0 c8) vR vW us K (kpR P I (i+1)) (kpW P wa (i+1))):=⟨_,_,_,bt e7.o a7,by rw[HN.o.1,HN.o.2];exact g9.o.below a7⟩;clear a7 b9;go_wp2;go_roundw;exact⟨i+1,Oo,Gg,HF⟩;exact Im
   rw[hP]at b9;have HN:=ay (q7.o hP);clear hP q8 q7;go_upto_region 10 with (go_at_call 127;apply b9.o.mono;rintro e h9 ⟨rfl,a7⟩);have h3:=ay (bt e7.o a7);have c9:=ay (g9.o.below a7);have j0:=ay (i9.o.below a7);clear a7 b9 e7 g9 i9;go_cut [38] from 38 to 65 (λt wx=>t=ai i/\Hh (∃vR us,Bl w7 wx/\KX wx w7.1.size pk (.slice a8 l0 c8) vR vW us K (kpR P I (i+1)) (kpW P wa i)))
   case first=>
    have c1:=c9.o.tx.c1;go_region_law (first
     |(refine step_append_lies _ Fl _ _ 23 Fl w7.1.size 24 iS sn 1 24 underlying23 hj r7 r8 r9 rfl Dd vR _ us Fl (M.o.tq.rq.own.alloc _) (az q9.1.size 0) 1 1 [.slice a12 lr r3] Fl rfl (qH _ _ _) (λu hu=>by simp at hu;subst hu;rfl) Dd Um Oo (by have:=e9.o.size;simp;omega) _ rfl ?_;intro g13 w9 z8 i3 O t5 t6;have z9:=(M.o.tx.grown M.o.tq.rq.own Dd O).c1;have A0:=(M.o.tx.grown M.o.tq.rq.own Dd O).free 1)
     |(go_simp;go_at_call 123;(with_reducible refine(q6.o _ (j0.o.below eB.drew)).mono ?_);rintro e q9 ⟨t7,rfl,h4,hb'⟩;have j1:=QO hb';have e9:=ay (bt h3.o j1);have M:=ay (c9.o.below j1);have f7:Hh (q9.ownsRow h9.1.size 3 1 t7 lr (row.map ai)):=h4;have A1:=M.o.tx.c1;have A2:=λob=>(M.o.below (eB.alloc eA ob)).tx.c1;have⟨a12,r3,t8⟩:=qt h4;subst t8;clear h4 hb')
     |fail)
    all_goals
     go_wp2
     go_meet
     have hN:=M.o.pushR (u:=.slice a12 lr r3) (l:=row) (qE (by rw[t2.o];exact f7.o) h3.o.size) (λq hq g h1 h2=>by
      have e1:=((c9.o.tq.rq.each q hq).lt g h1).2;have e2:=(f7.o.lt g h2).1;omega) (λg h1 h2=>by
      have e1:=(f7.o.lt g h1).1;have e2:=(c9.o.tq.o0.lt g h2).2;omega) (λg h1 h2=>by
      have e1:=(f7.o.lt g h1).1;have e2:=(c9.o.tq.o2.lt g h2).2;omega) i3 O
     rw[<-HN.o.1]at hN
     exact⟨rfl,ay ⟨_,_,((e9.o.alloc e9.o.size _).grown O (by have:=e9.o.size;simp;omega) (λg hg=>(M.o.tq.rq.own.lt g hg).1)).setCell M.o.lo _,hN⟩⟩
   case rest=>
    obtain⟨rfl,HT⟩:=hcut;have⟨A3,A4,j2,j3⟩:=HT.o;have d3:=ay j2;have f8:=ay j3;clear HT j2 j3 h3 c9 j0;generalize wc=w14 at *;have⟨bw,ow,ew,cw⟩:=o6.o w14 (bt a9.o (bt b8.o d3.o)) i h8;subst ew;generalize wa.getD i 0=x at *;go_upto_region 11 with fail;have c2:=f8.o.tx.c2;have ca:=(k3.o.below (bt b8.o d3.o)).c2;have A5:=λob=>(f8.o.below (eB.alloc eA ob)).tx.c2;have d8:=ay (f8.o.below (bJ w14.1.size w14).drew);go_region_law (first
     |(refine step_append_lies _ Fl _ _ 24 Fl w7.1.size 3 i0 (ai 0) 1 8 underlying24 hi r4 r5 r6 rfl Dd vW _ ((kpW P wa i).map ai) Fl (d8.o.tq.o2.alloc _) (az _ 0) 1 1 [ai x] Fl rfl (qH _ _ _) (λu hu=>by simp at hu;subst hu;rfl) Dd Um Oo (by have:=d3.o.size;simp;omega) _ rfl ?_;intro g15 x3 A6 i4 V m6 t9;have A7:=(d8.o.tx.grown d8.o.tq.o2 Dd V).c2;have A8:=(d8.o.tx.grown d8.o.tq.o2 Dd V).free 2)
     |fail)
    all_goals
     go_wp2
     go_roundw
     case rel=>
      have hN:=d8.o.pushW i4 V (λg hg=>by
       simp only[Value.ownBlock,oI]at hg;subst hg;rcases m6 with h|h;exact .inl h;exact .inr (by rw[h];simp))
      rw[<-HN.o.2]at hN
      exact⟨i+1,Oo,Gg,ay ⟨_,_,_,(((d3.o.drew).alloc (by have:=d3.o.size;simp;omega) _).grown V (by have:=d3.o.size;simp;omega) (λg hg=>(d8.o.tq.o2.lt g hg).1)).setCell f8.o.lo _,hN⟩⟩
     case measure=>simp[intOf];omega
  obtain rfl:i=n:=Oo;have i1:=aY i;have d9:=ay (k5.o.below (bt b8.o HB.o));have m7:=ay HK.o.tx;have v6:=ay (bt a9.o (bt b8.o HB.o));have v7:=ay (HK.o.tq.base (bM a9.o.size b8.o.size));have⟨aR,kR,eR⟩:=qt HK.o.tq.rq.own;have⟨aW,kW,eW⟩:=qt HK.o.tq.o2;subst eR eW;clear HK HB o5 o6 n9 KH o3 q4 q3 b8;generalize (kpR P I i).length=lR at *;generalize (kpW P wa i).length=lW at *;have d0:=m7.o.c0;have d1:=m7.o.c1;have d2:=m7.o.c2;have f0:=d9.o.free 0;have f1:=d9.o.free 1;have f2:=d9.o.free 2;have r0:=d9.o.c0;have r1:=d9.o.c1;have r2:=d9.o.c2;have m8:=ay d9.o.typ;go_wp2_with fail;refine aU (v:=.agg #[.slice a8 l0 c8,.slice aR lR kR,.slice aW lW kW]) (by simp[results,results89,go_sem,r0,r1,r2]) rfl ⟨_,_,_,rfl,⟨us,?_⟩,((v6.o.setCell (Nat.le_add_right _ 2) _).setCell (Nat.le_add_right _ 2) _).setCell (Nat.le_add_right _ 2) _⟩;exact((v7.o.set m8.o).set (qU m8.o)).set (qU (qU m8.o))
def zI(ls:LL):NN
 |0=>0
 |j+1=>zI ls j+(ls.getD j []).length
theorem UG ls:∀{i j:Nat},i<=j->zI ls i<=zI ls j
 |i,0,h=>by
  have e:=Nat.le_zero.1 h;subst e;exact eA
 |i,j+1,h=>by
  by_cases e:i=j+1;rw[e];exact eA;exact bM (UG ls (i:=i) (j:=j) Oo) (Nat.le_add_right _ _)
theorem qDo{w}B{v}{l:LI}k(h:w.ownsRow B 3 1 v l.length (l.map ai))(hl:l.length<=1099511627776)(M:0<=k)(K:k<=1099511627776):
 Cl 17 #[v,ai k] w λe w'=>e=.returned (ai (k+l.length))/\(∀b,some b≠v.ownBlock->w'.1[b]?=w.1[b]?)/\w'.1.size=w.1.size/\Below B w w'/\
  ∀W,(∀g,v.ownBlock=some g->W.1[g]?=w'.1[g]?)->w'.1.size<=W.1.size->aF 36 #[v,ai k] W (ai (k+l.length)) λw''=>w''=W:=by
 rcases h.2 with ⟨rfl,O⟩|⟨g,cap,cur,rfl,hb',hc,hr⟩;rw[O];apply (qAc w none 0 k).mn;intro w' rfl;refine⟨Ss,λb _=>rfl,rfl,eB,λW _ _=>?_⟩;have:=qAd W none 0 k;simpa using this;apply (qAa w g cap l k (qFt h) hl M K).mn;rintro w' ⟨ho,I⟩;exact⟨rfl,λb hb=>I.block b (λe=>hb (by rw[e];rfl)),I.size,I.below hb',λW V hs=>qAb W g k (ho.move (V g rfl) hs) hl M K⟩
structure MkQ(w wr:World)(B:Nat)(vs:LV)(ls:LL)(k:Int)(j:Nat):Prop where
 size:wr.1.size=w.1.size
 bel:Below B w wr
 far:∀q,(∀i,i<j->some q≠(vs.getD i undef).ownBlock)->wr.1[q]?=w.1[q]?
 held:∀i,i<j->∀W,(∀q,(vs.getD i undef).ownBlock=some q->W.1[q]?=wr.1[q]?)->wr.1.size<=W.1.size->aF 36 #[vs.getD i undef,ai (k+zI ls i)] W (ai (k+zI ls i+(ls.getD i []).length)) λw''=>w''=W
theorem MkQ.step{w wr w2 B vs ls k j}(h:MkQ w wr B vs ls k j)(hap:∀i,i<j->Ap' (vs.getD i undef) (vs.getD j undef))
 (I:∀b,some b≠(vs.getD j undef).ownBlock->w2.1[b]?=wr.1[b]?) (M:w2.1.size=wr.1.size) (O:Below B wr w2)
 (V:∀W,(∀g,(vs.getD j undef).ownBlock=some g->W.1[g]?=w2.1[g]?)->w2.1.size<=W.1.size->aF 36 #[vs.getD j undef,ai (k+zI ls j)] W (ai (k+zI ls j+(ls.getD j []).length)) λw''=>w''=W):MkQ w w2 B vs ls k (j+1):=by
 refine⟨M.trans h.size,h.bel.trans O,λq hq=>(I q (hq j Oo)).trans (h.far q λi hi=>hq i Oo),λi hi W K hs=>?_⟩;by_cases e:i=j;subst e;exact V W K hs;exact h.held i Oo W (λq hq=>(K q hq).trans (I q (λe2=>hap i Oo q hq e2.symm))) Oo
theorem qJJ{w B v vs ls}k(h:RQ w B v vs ls)(hap:∀i j,i<j->j<ls.length->Ap' (vs.getD i undef) (vs.getD j undef))(hl:zI ls ls.length<=1048576)(a8:ls.length<=1048576)(hk:0<=k)(b1:k<=8388608):
 aF 18 #[v,ai k] w (ai (k+zI ls ls.length)) λw'=>MkQ w w' B vs ls k ls.length:=by
 have K:Hh (∀wr j,MkQ w wr B vs ls k j->j<ls.length->∃g cap,v=sZ g 0 ls.length cap/\aC wr g j (vs.getD j undef)/\wr.ownsRow B 3 1 (vs.getD j undef) (ls.getD j []).length ((ls.getD j []).map ai)):=ay λwr j hM O=>by
  obtain⟨g,cap,e,-,hc⟩:=h.get O;refine⟨g,cap,e,(bF (hM.far g λi hi=>own_ne (h.each i Oo) (qK h.own (g:=g) (by rw[e];rfl)) Dd)).trans hc,qD (h.each j O) λq hq=>hM.far q λi hi e2=>hap i j hi O q e2.symm hq⟩
 have M:Hh (∀wr w2 j,MkQ w wr B vs ls k j->j<ls.length->(∀b,some b≠(vs.getD j undef).ownBlock->w2.1[b]?=wr.1[b]?)->w2.1.size=wr.1.size->Below B wr w2->_->MkQ w w2 B vs ls k (j+1)):=ay λwr w2 j hM O h1 h2 h3 h4=>hM.step (λi hi=>hap i j hi O) h1 h2 h3 h4;have V:Hh (∀i,i<=ls.length->zI ls i<=1048576):=ay λi hi=>bM (UG _ hi) hl;have a3:Hh (∀i,zI ls (i+1)=zI ls i+(ls.getD i []).length):=ay λi=>rfl;obtain⟨a,cap,rfl⟩:=h.sl;clear h hap hl;have⟨n,hn⟩:=Ex ls.length;rw[<-hn]at K M V a8 |-;clear hn;go_enter func18,ntmps18;go_wp2;go_loopw [1,5] (λu t wr=>∃j:Nat,j<=n/\t=ai j/\∃c:Int,u=ai c/\0<=c/\c<=9437184/\Hh (c=k+zI ls j/\MkQ w wr B vs ls k j)) (λ_ t _=>n-(intOf t).toNat);exact⟨0,eC,rfl,_,rfl,Oo,Oo,ay ⟨by show k=k+((0:Nat):Int);omega,rfl,eB,λ_ _=>rfl,λi hi=>Oo⟩⟩;obtain⟨j,O,rfl,c,rfl,a9,hc1,I⟩:=hrel;by_cases a4:j<n
 .have i1:=aV a4;obtain⟨g,cp,e,c1,ho⟩:=K _ j I.2 a4;simp only[vI,true_and]at e;obtain⟨rfl,rfl⟩:=e;have hle:=V (j+1) Oo;rw[a3.o j]at hle;have a5:=I.1;have HK:=ay (qDo B c ho Oo a9 Oo);rw[a5]at HK;have a6:=ay (λw2=>M _ w2 j I.2 a4);have hR:Hh (k+zI ls j+((ls.getD j []).length:Int)=k+zI ls (j+1)):=ay (by rw[a3.o j];omega);obtain⟨ar,cr,er⟩:=qt ho;have a7:0<=k+zI ls j+((ls.getD j []).length:Int)/\k+zI ls j+((ls.getD j []).length:Int)<=9437184:=Oo;subst a5;clear ho I hle;generalize hu:vs.getD j undef=u at *;subst er;go_wp2_with fail;apply HK.o.mn;rintro w2 ⟨h1,h2,h3,h4⟩;have HN:=ay (a6 _ h1 h2 h3 h4);clear h1 h2 h3 h4 HK a6 hu;go_wp2;go_roundw;exact⟨j+1,Oo,Gg,_,rfl,a7.1,a7.2,ay ⟨hR,HN⟩⟩;exact Im
 obtain rfl:j=n:=Oo;have i1:=aY j;go_wp2;go_ret;exact⟨qa I.1,I.2⟩
theorem qJK{W}v{vs:LV}{ls}k(a3:∃a cap,v=.slice a ls.length cap)(hc:∀i,i<ls.length->∃g cap,v=sZ g 0 ls.length cap/\W.cell? (az g i)=some (vs.getD i undef))
 (hv:∀i,i<ls.length->∃a n cap,vs.getD i undef=.slice a n cap)
 (hh:∀i,i<ls.length->aF 36 #[vs.getD i undef,ai (k+zI ls i)] W (ai (k+zI ls i+(ls.getD i []).length)) λw''=>w''=W) (hl:zI ls ls.length<=1048576) (a4:ls.length<=1048576) (hk:0<=k) (a6:k<=8388608):
 aF 19 #[v,ai k] W (ai (k+zI ls ls.length)) λw''=>w''=W:=by
 change Hh _ at hc hh hv;have M:Hh (∀i,i<=ls.length->zI ls i<=1048576):=ay λi hi=>bM (UG _ hi) hl;have O:Hh (∀i,zI ls (i+1)=zI ls i+(ls.getD i []).length):=ay λi=>rfl;obtain⟨a,cap,rfl⟩:=a3;clear hl;have⟨n,hn⟩:=Ex ls.length;rw[<-hn]at hc hh hv M a4 |-;clear hn;go_enter func19,ntmps19;go_wp2;go_loop [1,5] (λu t=>∃j:Nat,j<=n/\t=ai j/\∃c:Int,u=ai c/\0<=c/\c<=9437184/\Hh (c=k+zI ls j)) (λ_ t=>n-(intOf t).toNat);exact⟨0,eC,rfl,_,rfl,Oo,Oo,ay (by show k=k+((0:Nat):Int);omega)⟩;obtain⟨j,hj,rfl,c,rfl,a7,hc1,I⟩:=hrel;by_cases K:j<n
 .have i1:=aV K;obtain⟨g,cp,e,c1⟩:=hc j K;simp only[vI,true_and]at e;obtain⟨rfl,rfl⟩:=e;have hle:=M (j+1) Oo;rw[O.o j]at hle;have a5:=I.o;have HK:=ay (hh j K);have hR:Hh (k+zI ls j+((ls.getD j []).length:Int)=k+zI ls (j+1)):=ay (by rw[O.o j];omega);have V:0<=k+zI ls j+((ls.getD j []).length:Int)/\k+zI ls j+((ls.getD j []).length:Int)<=9437184:=Oo;obtain⟨ar,nr,cr,er⟩:=hv j K;rw[er]at HK c1;subst a5;have a8:¬(k+zI ls j+((ls.getD j []).length:Int)<0):=Oo;clear I hle;generalize k+zI ls j+((ls.getD j []).length:Int)=z at *;go_wp2_with fail;apply HK.o.mn;intro w2 a9;subst w2;go_wp2;go_round;exact⟨j+1,Oo,Gg,_,rfl,V.1,V.2,ay hR⟩;exact Im
 obtain rfl:j=n:=Oo;have i1:=aY j;go_wp2;go_ret;exact⟨qa I,rfl⟩
