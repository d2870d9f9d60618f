import Derived.Test.YtfpjpngjikdaoaaGreatAg05
import Derived.Test.YtfpjpngjikdaoaaGreatAg10
import Derived.Test.YtfpjpngjikdaoaaGreatAg12
set_option maxHeartbeats 40000000
set_option maxRecDepth 1000000
set_option linter.defProp false
open List Go.World
open List renaming length->E,getD->U
open Array renaming size->J
open Go.World renaming alloc->S,cell?->eQ,ownsRow->oW,setCell->sW
open Go.Value renaming slice->Z,bool->oB,agg->aQ
open Go.Obj renaming cells->eZ
open Go.Ending renaming returned->rE
open Option renaming some->Q
open Bool renaming false->nF
open Decidable renaming decide->oD
open Go renaming World->oX,Value->oV,step_append_lies->sX,undef->tM
namespace Go.Proofs.YtfpjpngjikdaoaaGreat
open Go.Proofs.Tryz Go.RowKit
def Ju w{a0 a1 a2 b0}b1{b2 K wa vb wb I rb}(hA:IT w a0 a1 a2 K I wa)(hB:IT w b0 b1 b2 vb rb wb)(j4:E K<=1099511627776)(m9:qS I)(j5:E vb<=1099511627776)(n3:qS rb)(g5:ql K I wa)(j6:ql vb rb wb):
 Cl 92 #[aQ #[a0,a1,a2],aQ #[b0,b1,b2]] w λe w'=>∃x0 x1 x2 us,e=rE (aQ #[x0,x1,x2])/\TQ w' (J w.1) x0 x1 x2 us K (kpR (Z8 K vb I rb) I (E I)) (kpW (Z8 K vb I rb) wa (E I))/\Bl w w':=by
 have⟨i0,hi,r4,r5,r6⟩:=aX Tryz.infoInt;have⟨iS,hj,r7,r8,r9⟩:=aX Tryz.infoIS;have⟨W1,h5⟩:=Ex (three w a0 a1 a2 b0 b1 b2);have⟨a9,k3,k4,k5⟩:=qGh w a0 a1 a2 b0 b1 b2;rw[<-h5]at a9 k3 k4 k5;change Hh _ at k3 k4 k5 a9;have⟨k6,x4,k7⟩:=qL g5;have⟨k8,x5,n4⟩:=qL j6;have s4:=xz k6;have s5:=xz k8;have k9:=xK k6;have hpb:=xK k8;have n5:E wa=E I:=by
  unfold ql at g5;simp only[bV,dE]at g5;omega
 have l1:=ay (vQ _ K I (hA.zz a9) j4 m9);have l2:=ay λW hW=>vQ W _ _ (hB.zz (bt a9 hW)) j5 n3;rw[g5]at l1;rw[j6]at l2;have⟨sh,d5⟩:=Ex (shr K vb);have⟨pl,d6⟩:=Ex (plc (λi=>oD (U K i 0∈vb)) (E K));have⟨keys,a3⟩:=Ex (Ya K vb rb);have x7:E sh<=6:=by have:=j7 K vb;rw[d5];omega
 have v9:E pl<=6:=by rw[d6];have:=xq (λi=>oD (U K i 0∈vb)) (E K);omega
 have y0:E keys<=10000:=by have:=qIK K vb rb;rw[a3];omega
 have l3:∀r∈keys,E r=E sh:=by rw[a3,d5];exact qGi
 have KP:Hh (∀W,Bl W1 W->Cl 124 #[a0,b0] W λe w'=>∃v,e=rE v/\oW w' (J W.1) 3 1 v (E pl) (pl.map ai)/\Bl W w'):=λW hW=>by
  rw[d6];exact zq W _ _ K _ (hA.e.zz (bt a9 hW)) (hB.e.zz (bt a9 hW)) j4 j5
 have KV:=ay λW u hW hu=>by
  have h1:=xZ W _ u K pl (hA.e.zz (bt a9 hW)) hu Oo (by rw[d6];exact qFJ K _);have e:atP K pl=sh:=by rw[d6,d5];exact jt K _
  rw[e]at h1;exact h1
 have n6:Hh (∀W u,Bl W1 W->IS W u sh->Cl 129 #[aQ #[b0,b1,b2],u] W λe w'=>∃v uo,e=rE v/\RQ w' (J W.1) v uo keys/\Bl W w'):=λW u hW hu=>by
  have h1:=uV W u (hB.zz (bt a9 hW)) hu Oo Oo Oo n4;rw[d5]at h1;rw[JA hpb (Z9 k9) (λx=>uA)]at h1;rw[a3];exact h1
 have n7:Hh (∀W u,ISS W u keys->Cl 128 #[u] W λe w'=>∃c,e=rE (.pointer c)/\TC W w' keys c/\Bl W w'):=λW u hu=>
  XK W u _ hu (by rw[a3];exact qIJ K) Oo (λr hr=>O1 (l3 r hr))
 have n8:=ay λW hW=>uC W _ K (hA.e.zz (bt a9 hW)) Oo;have n9:=ay λW u up j l4 hu s6=>by
  have hm:U I j []∈I:=by rw[gD,gE l4];exact gM _
  have h1:=xZ W u up (U I j []) pl hu s6 Oo (by rw[k7 _ hm,d6];exact qFJ K vb);have e:atP (U I j []) pl=qQ K sh (U I j []):=by rw[d6,d5];exact qC6 k9
  rw[e]at h1;exact h1
 have KH:Hh (∀W3 w4 W c u j,TC W3 w4 keys c->Bl w4 W->IS W u (qQ K sh (U I j []))->Cl 130 #[.pointer c,u] W λe w'=>e=rE (oB (Z8 K vb I rb j))/\Bl W w'):=λW3 w4 W c u j hT hW hu=>by
  have h1:=hT.has hW l3 Oo Oo hu (vZ);unfold Z8 UZ;rw[<-a3,<-d5];exact h1
 have o3:Hh (∀W u j,j<E I->IS W u (U I j [])->Cl 126 #[u] W λe w'=>∃v,e=rE v/\oW w' (J W.1) 3 1 v (E (U I j [])) ((U I j []).map ai)/\Bl W w'):=λW u j l4 hu=>by
  have hm:U I j []∈I:=by rw[gD,gE l4];exact gM _
  exact uC W u _ hu (by rw[k7 _ hm];omega)
 obtain⟨p0,k0,e0,-⟩:=hA.e;have s7:=hA.x;have⟨p1,k1,e1,hc1⟩:=hA.x;have⟨p2,k2,e2,o4⟩:=hA.k;obtain⟨q0,m0,f0,-⟩:=hB.e;obtain⟨q1,m1,f1,-⟩:=hB.x;obtain⟨q2,m2,f2,-⟩:=hB.k;have o5:Hh (∀W,Bl w W->∀j,j<E I->∃(b o:Nat) (u:oV),p1=Q (az b o)/\eQ W (az b (o+j))=Q u/\IS W u (U I j [])):=λW hW j hj=>by
  rcases hc1 with h0|⟨b,o,rfl,h⟩;omega;have⟨u,h1,h2⟩:=h j hj;exact⟨b,o,u,rfl,(hW.cell (bL w _ h1)).trans h1,h2.zz hW⟩
 have o6:Hh (∀W,Bl w W->∀j,j<E I->∃(b o:Nat),p2=Q (az b o)/\eQ W (az b (o+j))=Q (ai (U wa j 0))):=λW hW j hj=>by
  rcases o4 with h0|⟨b,o,rfl,h⟩;omega;exact⟨b,o,rfl,(hW.cell (bL w _ (h j Oo))).trans (h j Oo)⟩
 unfold three at h5;subst e0 e1 e2 f0 f1 f2;rw[n5]at *;generalize Z8 K vb I rb=P at *;clear hA hB s7 hc1 o4 j4 m9 j5 n3 k7 n4 l3 k9 hpb k6 k8 g5 j6 d5 d6 a3 n5 s4 s5;have d0:=k3.o.c0;have d1:=k3.o.c1;have d2:=k3.o.c2;generalize E I=n at *;generalize hl0:E K=l0 at *;change Hh _ at hl0;generalize E vb=n0 at *;generalize E rb=n1 at *;generalize E wb=n2 at *;go_enter func92,ntmps92;go_upto_region 1 with fail;rw[<-h5];clear h5;go_wp2_with fail;apply l1.o.mono;rintro e w2 ⟨rfl,f9⟩;have o8:=ay f9;have i5:=ay (l2.o w2 f9);have d0:=(k4.o.zz f9).c0;have d1:=(k4.o.zz f9).c1;have d2:=(k4.o.zz f9).c2;clear f9 l1 l2;go_wp2_with fail;apply i5.o.mono;rintro e w3 ⟨rfl,o9⟩;have g6:=ay (bt o8.o o9);clear o9 i5 o8 d0 d1 d2;have d0:=(k3.o.zz g6.o).c0;have d1:=(k4.o.zz g6.o).c0;have p3:=ay (KP.o w3 g6.o);go_wp2_with fail;apply p3.o.mono;rintro e w4 ⟨v4,rfl,l5,p4⟩;have d7:=ay (bt g6.o p4);have l6:=ay (qN l5);have⟨a4,c4,e4⟩:=qt l5;subst e4;clear l5 p4 KP p3 g6 d0 d1;go_upto_region 4 with fail;go_cut [6] from 24 to 30 (λv wx=>∃c,v=.pointer c/\Hh (∃W3,TC W3 wx keys c/\Bl W1 wx/\IS wx (Z a4 (E pl) c4) pl))
 case first=>
  have d0:=(k3.o.zz d7.o).c0;have g0:=(k4.o.zz d7.o).c0;have g1:=(k4.o.zz d7.o).c1;have g2:=(k4.o.zz d7.o).c2;go_region_law (first
   |(go_simp;go_at_call 94;(with_reducible refine(KV.o _ _ (d7.o.drew) (l6.o.zz eB.drew)).mono ?_);rintro e w5 ⟨u5,rfl,l7,i6⟩;have p5:=QO i6;have s8:=ay (qN l7);have g7:=ay (bt d7.o p5);have y1:=(k4.o.zz g7.o).c0;have y2:=(k4.o.zz g7.o).c1;have y3:=(k4.o.zz g7.o).c2;have⟨a5,c5,e5⟩:=qt l7;subst e5;clear l7 i6)
   |(go_simp;go_at_call 129;(with_reducible refine(n6.o _ _ g7.o s8.o).mono ?_);rintro e w6 ⟨u6,y4,rfl,l8,p6⟩;have s9:=ay (l8.rs.iss eB);have t0:=ay (bt g7.o p6);have⟨a6,c6,e6⟩:=l8.sl;subst e6;clear l8)
   |(go_simp;go_at_call 128;(with_reducible refine(n7.o _ _ s9.o).mono ?_);rintro e w7 ⟨c7,rfl,h7,p7⟩)
   |fail)
  all_goals
   go_wp2
   go_meet
   exact⟨_,rfl,ay ⟨_,h7,bt t0.o p7,l6.o.zz (bt (bt p5 p6) p7)⟩⟩
 case rest=>
  obtain⟨c7,rfl,HT⟩:=hcut;have⟨W3,h7,p8,p9⟩:=HT.o;have q3:=ay h7;have b8:=ay p8;have q4:=ay p9;clear HT h7 p8 p9 KV n6 n7 d7 l6;generalize wc=w7 at *;have d0:=(k3.o.zz b8.o).c0;have i7:=ay (n8.o w7 b8.o);go_wp2_with fail;apply i7.o.mono;rintro e w8 ⟨v8,rfl,l9,m3⟩;have⟨a8,c8,e8⟩:=qt l9;subst e8;have m4:=m3.size;have g4:Hh (Bl w7 (S w8 (eZ #[Z a8 l0 c8,sn,sn] 58))/\KX (S w8 (eZ #[Z a8 l0 c8,sn,sn] 58)) (J w7.1) (J w8.1) (Z a8 l0 c8) sn sn [] K [] []):=⟨m3.alloc m4 _,KX.zw (by rw[hl0.o];exact l9) m4⟩;clear l9 m3 n8 i7 d0 hl0;go_upto_region 6 with fail;have⟨pk,q5⟩:=Ex (J w8.1);rw[<-q5]at g4 m4 |-;generalize S w8 (eZ #[Z a8 l0 c8,sn,sn] 58)=W9 at g4 |-;clear q5;have d1:=(k3.o.zz (bt b8.o g4.o.1)).c1;have m5:Hh (kpR P I 0=[]/\kpW P wa 0=[]):=⟨rfl,rfl⟩;go_wp2_with fail;clear d1;go_loopw [38] (λt wr=>∃i:Nat,i<=n/\t=ai i/\Hh (∃vR vW us,Bl w7 wr/\KX wr (J w7.1) pk (Z a8 l0 c8) vR vW us K (kpR P I i) (kpW P wa i))) (mZ n);exact⟨0,eC,rfl,ay ⟨_,_,_,g4.o.1,by rw[m5.o.1,m5.o.2];exact g4.o.2⟩⟩;clear g4 m5;obtain⟨i,y5,rfl,HT⟩:=hrel;have⟨vR,vW,us,hB,hK⟩:=HT.o;have HB:=ay hB;have HK:=ay hK;clear HT hB hK;by_cases h8:i<n
  .have i1:=aV h8;have⟨b,o,u,ea,c1,hu⟩:=o5.o wr (bt a9.o (bt b8.o HB.o)) i h8;subst ea;have HU:=ay hu;have i8:=ay (n9.o wr u _ i h8 hu (q4.o.zz HB.o));have q6:=ay λW hu=>o3.o W u i h8 hu;have t1:=ay λW v hW hv=>KH.o W3 w7 W c7 v i q3.o hW hv;have q7:Hh (P i->kpR P I (i+1)=kpR P I i++[U I i []]/\kpW P wa (i+1)=kpW P wa i++[U wa i 0]):=λh=>⟨qC7 I h,qIL wa h⟩;have q8:Hh (P i=nF->kpR P I (i+1)=kpR P I i/\kpW P wa (i+1)=kpW P wa i):=λh=>⟨qBV I h,qGj wa h⟩;have z3:=qIM P I i;have z4:=qIN P wa i;obtain⟨au,cu,rfl,-⟩:=hu;generalize U I i []=row at *;generalize hlr:E row=lr at *;have t2:=ay hlr;clear hlr;generalize qQ K sh row=prow at *;go_wp2_with fail;apply i8.o.mono;rintro e t3 ⟨v10,rfl,g8,e3⟩;have e7:=ay (bt HB.o e3);have g9:=ay (HK.o.zz e3);have i9:=ay (HU.o.zz e3);have b9:=ay (t1.o t3 v10 e7.o (qN g8));have⟨z5,z7,t4⟩:=qt g8;subst t4;clear i8 g8 e3 HB HK HU c1;cases hP:P i
   .rw[hP]at b9;have HN:=ay (q8.o hP);clear hP;go_wp2_with fail;apply b9.o.mono;rintro e h9 ⟨rfl,a7⟩;have HF:Hh (∃vR vW us,Bl w7 h9/\KX h9 (J w7.1) pk (Z a8 l0 c8) vR vW us K (kpR P I (i+1)) (kpW P wa (i+1))):=⟨_,_,_,bt e7.o a7,by rw[HN.o.1,HN.o.2];exact g9.o.zz a7⟩;clear a7 b9;go_wp2;go_roundw;exact⟨i+1,Oo,Gg,HF⟩;exact Im
   rw[hP]at b9;have HN:=ay (q7.o hP);clear hP q8 q7;go_upto_region 10 with (go_at_call 130;apply b9.o.mono;rintro e h9 ⟨rfl,a7⟩);have h3:=ay (bt e7.o a7);have c9:=ay (g9.o.zz a7);have j0:=ay (i9.o.zz a7);clear a7 b9 e7 g9 i9;go_cut [38] from 38 to 65 (λt wx=>t=ai i/\Hh (∃vR us,Bl w7 wx/\KX wx (J w7.1) pk (Z a8 l0 c8) vR vW us K (kpR P I (i+1)) (kpW P wa i)))
   case first=>
    have c1:=c9.o.tx.c1;go_region_law (first
     |(refine sX _ Fl _ _ 23 Fl (J w7.1) 24 iS sn 1 24 underlying23 hj r7 r8 r9 rfl Dd vR _ us Fl (M.o.tq.rq.z.alloc _) (az q9.1.size 0) 1 1 [Z a12 lr r3] Fl rfl (qH _ _ _) Hu Dd Um Oo (by have:=e9.o.size;simp;omega) _ rfl ?_;intro g13 w9 z8 i3 O t5 t6;have z9:=(M.o.tx.grown M.o.tq.rq.z Dd O).c1;have A0:=(M.o.tx.grown M.o.tq.rq.z Dd O).L 1)
     |(go_simp;go_at_call 126;(with_reducible refine(q6.o _ (j0.o.zz eB.drew)).mono ?_);rintro e q9 ⟨t7,rfl,h4,hb'⟩;have j1:=QO hb';have e9:=ay (bt h3.o j1);have M:=ay (c9.o.zz j1);have f7:Hh (q9.ownsRow h9.1.size 3 1 t7 lr (row.map ai)):=h4;have A1:=M.o.tx.c1;have A2:=λob=>(M.o.zz (eB.alloc eA ob)).tx.c1;have⟨a12,r3,t8⟩:=qt h4;subst t8;clear h4 hb')
     |fail)
    all_goals
     go_wp2
     go_meet
     have hN:=M.o.pushR (u:=Z a12 lr r3) (l:=row) (qE (by rw[t2.o];exact f7.o) h3.o.size) (λq hq g h1 h2=>by
      have e1:=((c9.o.tq.rq.l q hq).lt g h1).2;have e2:=(f7.o.lt g h2).1;omega) (λg h1 h2=>by
      have e1:=(f7.o.lt g h1).1;have e2:=(c9.o.tq.o0.lt g h2).2;omega) (λg h1 h2=>by
      have e1:=(f7.o.lt g h1).1;have e2:=(c9.o.tq.o2.lt g h2).2;omega) i3 O
     rw[<-HN.o.1]at hN
     exact⟨rfl,ay ⟨_,_,((e9.o.alloc e9.o.size _).grown O (by have:=e9.o.size;simp;omega) (λg hg=>(M.o.tq.rq.z.lt g hg).1)).setCell M.o.lo _,hN⟩⟩
   case rest=>
    obtain⟨rfl,HT⟩:=hcut;have⟨A3,A4,j2,j3⟩:=HT.o;have d3:=ay j2;have f8:=ay j3;clear HT j2 j3 h3 c9 j0;generalize wc=w14 at *;have⟨bw,ow,ew,cw⟩:=o6.o w14 (bt a9.o (bt b8.o d3.o)) i h8;subst ew;generalize U wa i 0=x at *;go_upto_region 11 with fail;have c2:=f8.o.tx.c2;have ca:=(k3.o.zz (bt b8.o d3.o)).c2;have A5:=λob=>(f8.o.zz (eB.alloc eA ob)).tx.c2;have d8:=ay (f8.o.zz (bJ (J w14.1) w14).drew);go_region_law (first
     |(refine sX _ Fl _ _ 24 Fl (J w7.1) 3 i0 (ai 0) 1 8 underlying24 hi r4 r5 r6 rfl Dd vW _ ((kpW P wa i).map ai) Fl (d8.o.tq.o2.alloc _) (az _ 0) 1 1 [ai x] Fl rfl (qH _ _ _) Hu Dd Um Oo (by have:=d3.o.size;simp;omega) _ rfl ?_;intro g15 x3 A6 i4 V m6 t9;have A7:=(d8.o.tx.grown d8.o.tq.o2 Dd V).c2;have A8:=(d8.o.tx.grown d8.o.tq.o2 Dd V).L 2)
     |fail)
    all_goals
     go_wp2
     go_roundw
     case rel=>
      have hN:=d8.o.pushW i4 V (λg hg=>by
       simp only[Value.ownBlock,oI]at hg;subst hg;rcases m6 with h|h;exact .inl h;exact .inr (by rw[h];simp))
      rw[<-HN.o.2]at hN
      exact⟨i+1,Oo,Gg,ay ⟨_,_,_,(((d3.o.drew).alloc (by have:=d3.o.size;simp;omega) _).grown V (by have:=d3.o.size;simp;omega) (λg hg=>(d8.o.tq.o2.lt g hg).1)).setCell f8.o.lo _,hN⟩⟩
     case measure=>exact Im
  obtain rfl:i=n:=Oo;have i1:=aY i;have d9:=ay (k5.o.zz (bt b8.o HB.o));have m7:=ay HK.o.tx;have v6:=ay (bt a9.o (bt b8.o HB.o));have v7:=ay (HK.o.tq.zx (bM a9.o.size b8.o.size));have⟨aR,kR,eR⟩:=qt HK.o.tq.rq.z;have⟨aW,kW,eW⟩:=qt HK.o.tq.o2;subst eR eW;clear HK HB o5 o6 n9 KH o3 q4 q3 b8;generalize E (kpR P I i)=lR at *;generalize E (kpW P wa i)=lW at *;have d0:=m7.o.c0;have d1:=m7.o.c1;have d2:=m7.o.c2;have f0:=d9.o.L 0;have f1:=d9.o.L 1;have f2:=d9.o.L 2;have r0:=d9.o.c0;have r1:=d9.o.c1;have r2:=d9.o.c2;have m8:=ay d9.o.zy;go_wp2_with fail;refine aU (v:=aQ #[Z a8 l0 c8,Z aR lR kR,Z aW lW kW]) (by simp[results,results92,go_sem,r0,r1,r2]) rfl ⟨_,_,_,rfl,⟨us,?_⟩,((v6.o.setCell (nQ _ 2) _).setCell (nQ _ 2) _).setCell (nQ _ 2) _⟩;exact((v7.o.set m8.o).set (qU m8.o)).set (qU (qU m8.o))
def zI(ls:LL):NN
 |0=>0
 |j+1=>zI ls j+E (U ls j [])
def UG ls:∀{i j:Nat},i<=j->zI ls i<=zI ls j
 |i,0,h=>by
  have e:=Nat.le_zero.1 h;subst e;exact eA
 |i,j+1,h=>by
  by_cases e:i=j+1;rw[e];exact eA;exact bM (UG ls (i:=i) (j:=j) Oo) (nQ _ _)
def qDo{w}B{v}{l:LI}k(h:oW w B 3 1 v (E l) (l.map ai))(hl:E l<=1099511627776)(M:0<=k)(K:k<=1099511627776):
 Cl 17 #[v,ai k] w λe w'=>e=rE (ai (k+E l))/\(∀b,Q b≠v.ownBlock->w'.1[b]?=w.1[b]?)/\J w'.1=J w.1/\Below B w w'/\
  ∀W,(∀g,v.ownBlock=Q g->W.1[g]?=w'.1[g]?)->J w'.1<=J W.1->aF 20 #[v,ai k] W (ai (k+E l)) λw''=>w''=W:=by
 rcases h.2 with ⟨rfl,O⟩|⟨g,cap,cur,rfl,hb',hc,hr⟩;rw[O];apply (qAc w none 0 k).mn;intro w' rfl;refine⟨Ss,λb _=>rfl,rfl,eB,λW _ _=>?_⟩;have:=qAd W none 0 k;simpa using this;apply (qAa w g cap l k (qFt h) hl M K).mn;rintro w' ⟨ho,I⟩;exact⟨rfl,λb hb=>I.block b (λe=>hb (by rw[e];rfl)),I.size,I.zz hb',λW V hs=>qAb W g k (ho.A (V g rfl) hs) hl M K⟩
structure MkQ(w wr:oX)(B:Nat)(vs:LV)(ls:LL)(k:Int)(j:Nat):Prop where
 size:J wr.1=J w.1
 O:Below B w wr
 far:∀q,(∀i,i<j->Q q≠(U vs i tM).ownBlock)->wr.1[q]?=w.1[q]?
 held:∀i,i<j->∀W,(∀q,(U vs i tM).ownBlock=Q q->W.1[q]?=wr.1[q]?)->J wr.1<=J W.1->aF 20 #[U vs i tM,ai (k+zI ls i)] W (ai (k+zI ls i+E (U ls i []))) λw''=>w''=W
def MkQ.P{w wr w2 B vs ls k j}(h:MkQ w wr B vs ls k j)(hap:∀i,i<j->Ap' (U vs i tM) (U vs j tM))
 (I:∀b,Q b≠(U vs j tM).ownBlock->w2.1[b]?=wr.1[b]?) (M:J w2.1=J wr.1) (O:Below B wr w2)
 (V:∀W,(∀g,(U vs j tM).ownBlock=Q g->W.1[g]?=w2.1[g]?)->J w2.1<=J W.1->aF 20 #[U vs j tM,ai (k+zI ls j)] W (ai (k+zI ls j+E (U ls j []))) λw''=>w''=W):MkQ w w2 B vs ls k (j+1):=by
 refine⟨M.trans h.size,h.O.trans O,λq hq=>(I q (hq j Oo)).trans (h.far q λi hi=>hq i Oo),λi hi W K hs=>?_⟩;by_cases e:i=j;subst e;exact V W K hs;exact h.held i Oo W (λq hq=>(K q hq).trans (I q (λe2=>hap i Oo q hq e2.symm))) Oo
def qJJ{w B v vs ls}k(h:RQ w B v vs ls)(hap:∀i j,i<j->j<E ls->Ap' (U vs i tM) (U vs j tM))(hl:zI ls (E ls)<=1048576)(a8:E ls<=1048576)(hk:0<=k)(b1:k<=8388608):
 aF 18 #[v,ai k] w (ai (k+zI ls (E ls))) λw'=>MkQ w w' B vs ls k (E ls):=by
 have K:Hh (∀wr j,MkQ w wr B vs ls k j->j<E ls->∃g cap,v=sZ g 0 (E ls) cap/\aC wr g j (U vs j tM)/\oW wr B 3 1 (U vs j tM) (E (U ls j [])) ((U ls j []).map ai)):=ay λwr j hM O=>by
  obtain⟨g,cap,e,-,hc⟩:=h.get O;refine⟨g,cap,e,(bF (hM.far g λi hi=>own_ne (h.l i Oo) (qK h.z (g:=g) (by rw[e];rfl)) Dd)).trans hc,qD (h.l j O) λq hq=>hM.far q λi hi e2=>hap i j hi O q e2.symm hq⟩
 have M:Hh (∀wr w2 j,MkQ w wr B vs ls k j->j<E ls->(∀b,Q b≠(U vs j tM).ownBlock->w2.1[b]?=wr.1[b]?)->J w2.1=J wr.1->Below B wr w2->_->MkQ w w2 B vs ls k (j+1)):=ay λwr w2 j hM O h1 h2 h3 h4=>hM.P (λi hi=>hap i j hi O) h1 h2 h3 h4;have V:Hh (∀i,i<=E ls->zI ls i<=1048576):=ay λi hi=>bM (UG _ hi) hl;have a3:Hh (∀i,zI ls (i+1)=zI ls i+E (U ls i [])):=ay λi=>rfl;obtain⟨a,cap,rfl⟩:=h.sl;clear h hap hl;have⟨n,hn⟩:=Ex (E ls);rw[<-hn]at K M V a8 |-;clear hn;go_enter func18,ntmps18;go_wp2;go_loopw [1,5] (λu t wr=>∃j:Nat,j<=n/\t=ai j/\∃c:Int,u=ai c/\0<=c/\c<=9437184/\Hh (c=k+zI ls j/\MkQ w wr B vs ls k j)) (λ_ t _=>n-(intOf t).toNat);exact⟨0,eC,rfl,_,rfl,Oo,Oo,ay ⟨by show k=k+((0:Nat):Int);omega,rfl,eB,λ_ _=>rfl,λi hi=>Oo⟩⟩;obtain⟨j,O,rfl,c,rfl,a9,hc1,I⟩:=hrel;by_cases a4:j<n
 .have i1:=aV a4;obtain⟨g,cp,e,c1,ho⟩:=K _ j I.2 a4;simp only[vI,true_and]at e;obtain⟨rfl,rfl⟩:=e;have hle:=V (j+1) Oo;rw[a3.o j]at hle;have a5:=I.1;have HK:=ay (qDo B c ho Oo a9 Oo);rw[a5]at HK;have a6:=ay (λw2=>M _ w2 j I.2 a4);have hR:Hh (k+zI ls j+(E (U ls j []):Int)=k+zI ls (j+1)):=ay (by rw[a3.o j];omega);obtain⟨ar,cr,er⟩:=qt ho;have a7:0<=k+zI ls j+(E (U ls j []):Int)/\k+zI ls j+(E (U ls j []):Int)<=9437184:=Oo;subst a5;clear ho I hle;generalize hu:U vs j tM=u at *;subst er;go_wp2_with fail;apply HK.o.mn;rintro w2 ⟨h1,h2,h3,h4⟩;have HN:=ay (a6 _ h1 h2 h3 h4);clear h1 h2 h3 h4 HK a6 hu;go_wp2;go_roundw;exact⟨j+1,Oo,Gg,_,rfl,a7.1,a7.2,ay ⟨hR,HN⟩⟩;exact Im
 obtain rfl:j=n:=Oo;have i1:=aY j;go_wp2;go_ret;exact⟨qa I.1,I.2⟩
def qJK{W}v{vs:LV}{ls}k(a3:∃a cap,v=Z a (E ls) cap)(hc:∀i,i<E ls->∃g cap,v=sZ g 0 (E ls) cap/\eQ W (az g i)=Q (U vs i tM))
 (hv:∀i,i<E ls->∃a n cap,U vs i tM=Z a n cap)
 (hh:∀i,i<E ls->aF 20 #[U vs i tM,ai (k+zI ls i)] W (ai (k+zI ls i+E (U ls i []))) λw''=>w''=W) (hl:zI ls (E ls)<=1048576) (a4:E ls<=1048576) (hk:0<=k) (a6:k<=8388608):
 aF 19 #[v,ai k] W (ai (k+zI ls (E ls))) λw''=>w''=W:=by
 change Hh _ at hc hh hv;have M:Hh (∀i,i<=E ls->zI ls i<=1048576):=ay λi hi=>bM (UG _ hi) hl;have O:Hh (∀i,zI ls (i+1)=zI ls i+E (U ls i [])):=ay λi=>rfl;obtain⟨a,cap,rfl⟩:=a3;clear hl;have⟨n,hn⟩:=Ex (E ls);rw[<-hn]at hc hh hv M a4 |-;clear hn;go_enter func19,ntmps19;go_wp2;go_loop [1,5] (λu t=>∃j:Nat,j<=n/\t=ai j/\∃c:Int,u=ai c/\0<=c/\c<=9437184/\Hh (c=k+zI ls j)) (λ_ t=>n-(intOf t).toNat);exact⟨0,eC,rfl,_,rfl,Oo,Oo,ay (by show k=k+((0:Nat):Int);omega)⟩;obtain⟨j,hj,rfl,c,rfl,a7,hc1,I⟩:=hrel;by_cases K:j<n
 .have i1:=aV K;obtain⟨g,cp,e,c1⟩:=hc j K;simp only[vI,true_and]at e;obtain⟨rfl,rfl⟩:=e;have hle:=M (j+1) Oo;rw[O.o j]at hle;have a5:=I.o;have HK:=ay (hh j K);have hR:Hh (k+zI ls j+(E (U ls j []):Int)=k+zI ls (j+1)):=ay (by rw[O.o j];omega);have V:0<=k+zI ls j+(E (U ls j []):Int)/\k+zI ls j+(E (U ls j []):Int)<=9437184:=Oo;obtain⟨ar,nr,cr,er⟩:=hv j K;rw[er]at HK c1;subst a5;have a8:¬(k+zI ls j+(E (U ls j []):Int)<0):=Oo;clear I hle;generalize k+zI ls j+(E (U ls j []):Int)=z at *;go_wp2_with fail;apply HK.o.mn;intro w2 a9;subst w2;go_wp2;go_round;exact⟨j+1,Oo,Gg,_,rfl,V.1,V.2,ay hR⟩;exact Im
 obtain rfl:j=n:=Oo;have i1:=aY j;go_wp2;go_ret;exact⟨qa I,rfl⟩
end Go.Proofs.YtfpjpngjikdaoaaGreat
namespace Go.Proofs.YtfpjpngjikdaoaaGreat
open Go.Proofs.Tryz Go.RowKit
variable {x y:Int}{prs ps hs:LI}{bs:LL}{rl:List TbR}{T tl:List TbV}{xs:LV}{B I K c g g0 g1 g2 g3 hi j k lo n nh np nw off q r s i:Nat}{t:TbR}{e ty:TypeId}{u v0 v1 v2 v3 vb x1 x2 vt v z O V y0 y1 y2 x0:oV}{M W W' W0 X Y w0 wb w a iZ:oX}
def JJ w(h:ITs w vt tl)(hl:E tl<=1048576):
 Cl 42 #[vt] w λe w'=>∃v,e=rE v/\ISS w' v (tl.map TbV.e)/\Bl w w':=by
 obtain⟨iS,O,d1,d2,d3⟩:=aX Tryz.infoIS;obtain⟨d4,ct,rfl,hc⟩:=h;have HC:Hh (∀W,Bl w W->∀j,j<E tl->∃b oo v0,d4=Q (az b oo)/\TabAt W b (oo+j*3) (U tl j qA)/\eQ W (az b (oo+j*3))=Q v0/\IS w v0 (U tl j qA).e):=ay λW hW j O=>by
  rcases hc with h0|⟨b,oo,rfl,h⟩;omega;obtain⟨v0,v1,v2,c0,c1,c2,hI⟩:=h j O;exact⟨b,oo,v0,rfl,(h j O).zz hW,xE hW c0,hI.e⟩
 have HE:Hh (∀(W:oX) (v:oV) (us:LV),Bl w W->oW W (J w.1) 24 1 v (E tl) us->(∀i,i<E tl->IS w (U us i tM) (U tl i qA).e)->ISS W v (tl.map TbV.e)):=ay λW v us hW ho hu=>by
  have eg:∀i,i<E tl->U (tl.map TbV.e) i []=(U tl i qA).e:=λi hi=>by rw[gD,bK,gD,gE hi];rfl
  have d9:=ho.1;rcases ho.2 with ⟨rfl,hn⟩|⟨g,cap,cur,rfl,hb',hh,hn,-,-,ht⟩;exact⟨none,0,by rw[lM,hn],Or.inl (by rw[lM];exact hn)⟩;refine⟨_,cap,by rw[lM],Or.inr ⟨g,0,rfl,λj O=>?_⟩⟩;rw[lM]at O;refine⟨U us j tM,?_,by rw[eg j O];exact(hu j O).zz hW⟩;rw[cU,fA _ _ _ _ _ _ hh,<-dY,<-cL (by omega:j<E tl*1),ht,gD,gE Oo];rfl
 obtain⟨n,hn⟩:=Ex (E tl);rw[<-hn]at hl HC HE |-;clear hn hc;obtain⟨W1,V⟩:=Ex (S w (eZ #[] 24));have a3:Hh (Bl w W1/\oW W1 (J w.1) 24 1 (sZ (J w.1) 0 0 0) 0 []):=ay (by
  rw[V];exact⟨aK,oM w _ 0 (nR _) Dd rfl⟩)
 go_enter func42,ntmps42;go_upto_region 2 with fail;rw[<-V];clear V;go_wp2;go_loopw [3,9] (λu t wr=>∃(j:Nat) (vv:oV),j<=n/\t=ai j/\vv=u/\Hh (∃us,Bl w wr/\oW wr (J w.1) 24 1 vv j us/\∀i,i<j->IS w (U us i tM) (U tl i qA).e)) (λ_ t _=>n-(intOf t).toNat);exact⟨0,_,nZ _,rfl,rfl,ay ⟨[],a3.1,a3.2,λi hi=>Oo⟩⟩;clear a3;obtain⟨j,vv,e3,rfl,rfl,HT⟩:=hrel;obtain⟨us,hB,hO,hU⟩:=HT.o;change Hh _ at hB hO hU;clear HT;by_cases d5:j<n
 .have i1:(j:Int)<n:=Oo;obtain⟨b,oo,d6,ea,⟨v0,v1,v2,c0,c1,c2,hI⟩,a4,b1⟩:=HC _ hB j d5;subst ea;obtain rfl:d6=v0:=by rw[c0]at a4;exact(eU a4).symm
  obtain⟨a0,k0,e0,-⟩:=hI.e;obtain⟨a1,k1,e1,-⟩:=hI.x;obtain⟨a2,k2,e2,-⟩:=hI.k;subst e0 e1 e2;change Hh _ at b1;clear a4 hI;generalize E (U tl j qA).x=nr at *;generalize E (U tl j qA).k=n2 at *;obtain⟨W3,K⟩:=Ex (S wr (eZ #[Z a0 (E (U tl j qA).e) k0,Z a1 nr k1,Z a2 n2 k2] 58));have a5:Bl wr W3:=by rw[K];exact(bJ _ _).alloc (nR _) _
  have d0:eQ W3 (az (J wr.1) 0)=Q (Z a0 (E (U tl j qA).e) k0):=by rw[K,bE _ _ _ _ rfl];rfl
  have a6:=ay (bt hB a5);have a7:=ay (qB hO a5);have d7:=a6.o.size;clear a5;have b8:E us=j:=O1 hO.1
  have a8:=ay b8;clear b8;obtain⟨nv,a9⟩:=Ex (E (U tl j qA).e);rw[<-a9]at c0 d0 K;have b9:Hh (IS w (Z a0 nv k0) (U tl j qA).e):=ay (by rw[a9];exact b1);clear a9 b1;go_upto_region 5 with fail;rw[<-K];clear K c0 c1 c2;go_wp2_with (at_builtin;refine apL rfl rfl underlying23 Tryz.infoIS (a7.o.alloc _) rfl rfl (qH _ _ _) Sy ?_;intro g6 d8 w6 M I c7 c8);have HN:Hh (∃c9,Bl w w6/\oW w6 (J w.1) 24 1 (sZ g6 0 (j+1) d8) (j+1) c9/\∀i,i<j+1->IS w (U c9 i tM) (U tl i qA).e):=ay ⟨us++[Z _ _ _],(a6.o.alloc d7 _).grown I Sy (λq hq=>(a7.o.lt q hq).1),M,λi hi=>by
   by_cases e:i<j;rw[gD,aL (by rw[a8.o];exact e),<-gD];exact hU i e;obtain rfl:i=j:=Oo;rw[gD,bQ (by rw[a8.o];exact nR _),a8.o,iV];exact b9⟩
  clear M I c7 c8 a6 a7;go_roundw;exact⟨j+1,_,Oo,Gg,rfl,HN⟩;exact Im
 obtain rfl:j=n:=Oo;have i1:¬((j:Int)<j):=Oo;have HF:=ay (HE _ _ _ hB hO hU);clear HC HE hO hU;go_wp2;go_ret;exact⟨vv,rfl,HF,hB⟩
structure PX(ty:TypeId)(W:oX)(p:Nat)(v0 v1 v2 v3:oV)(x y:Int):Prop where
 i:W.1[p]?=Q (eZ #[v0,v1,v2,v3,ai x,ai y] ty (0,0))
section
variable {ty:TypeId} {W W':oX} {p:Nat} {v0 v1 v2 v3:oV} {x y:Int}
def PX.lt(h:PX ty W p v0 v1 v2 v3 x y):p<J W.1:=by
 rcases dL p (J W.1) with I|I;exact I;have:=h.i;rw[dO I]at this;cases this
def PX.zz(h:PX ty W p v0 v1 v2 v3 x y)(hb:Bl W W'):PX ty W' p v0 v1 v2 v3 x y:=⟨(hb.block p h.lt).trans h.i⟩
def PX.six(h:PX ty W p v0 v1 v2 v3 x y):eQ W (az p 0)=Q v0/\eQ W (az p 1)=Q v1/\eQ W (az p 2)=Q v2/\eQ W (az p 3)=Q v3/\eQ W (az p 4)=Q (ai x)/\eQ W (az p 5)=Q (ai y):=by
 refine⟨?_,?_,?_,?_,?_,?_⟩ <;> (rw[fA _ _ _ _ _ _ h.i];rfl)
def PX.zw ty(W:oX)v0 v1 v2 v3 x y:PX ty (S W (eZ #[v0,v1,v2,v3,ai x,ai y] ty)) (J W.1) v0 v1 v2 v3 x y:=⟨dZ _ _⟩
end
def Vk(hl:E tl<=1048576)(hs:∀t∈tl,TvS t):qS (tl.map TbV.e):=⟨by rw[lM];omega,λj=>by
 rw[gD,bK];cases e:tl[j]? with
 |none=>exact nZ _
 |some t=>exact(hs t (mem_of_getElem? e)).e⟩
def JK w k x y{ws}(h:ITs w vt tl)(hl:E tl<=1048576)(hs':∀t∈tl,TvS t)(V:IPl w v0 v1 v2 v3 bs ps hs ws)(c8:qS bs):
 aG 25 #[ai k,vt,aQ #[v0,v1,v2,v3,ai x,ai y]] w (oB (qc k tl bs ps hs ws (x,y))):=by
 have a7:∀W:oX,Bl W W.drew:=λW=>(bJ _ _).drew;have KE:=ay λW O=>JJ W (h.zz O) hl;have KP:=ay λW v O hv=>Jn W v k x y hv (Vk hl hs') (V.zz O).b c8 (V.zz O).p (V.zz O).h (V.zz O).d;obtain⟨a0,k0,rfl,-⟩:=V.b;obtain⟨a1,k1,rfl,-⟩:=V.p;obtain⟨a2,k2,rfl,-⟩:=V.h;obtain⟨a3,k3,rfl,-⟩:=V.d;clear V c8;obtain⟨d8,ct,rfl,hc⟩:=h;have HC:Hh (∀W,Bl w W->∀j,j<E tl->∃b oo,d8=Q (az b oo)/\TabAt W b (oo+j*3) (U tl j qA)):=ay λW O j hj=>by
  rcases hc with h0|⟨b,oo,rfl,h⟩;omega;exact⟨b,oo,rfl,(h j hj).zz O⟩
 have HR:Hh (∀j,j<E tl->TvS (U tl j qA)):=ay λj hj=>hs' _ (by rw[gD,gE hj];exact gM _);obtain⟨pl,a8⟩:=Ex (zX k (tl.map TbV.e) bs ps hs ws (x,y));obtain⟨res,I⟩:=Ex (qc k tl bs ps hs ws (x,y));have HA:Hh (∀j,j<E tl->qW (U tl j qA)=nF->res=nF):=ay λj hj e=>by
  have:tl.all qW=false:=by
   rw[all_eq_false];exact⟨_,by rw[gD,gE hj]at e;exact gM hj,by rw[gD,gE hj]at e;simp only[dI]at e;rw[e];simp⟩
  rw[I];unfold qc;rw[this,eX]
 have K:Hh ((∀i,i<E tl->qW (U tl i qA))->res=pl):=ay λh=>by
  have:tl.all qW:=by
   rw[aT];intro t ht;obtain⟨i,hi,rfl⟩:=gO ht;have:=h i hi;rwa[gD,gE hi]at this
  rw[I,a8];unfold qc;rw[this,dG]
 rw[<-a8]at KP;rw[<-I];clear I hs' a8;obtain⟨n,hn⟩:=Ex (E tl);rw[<-hn]at hl HC HR HA K KE |-;clear hn hc;generalize E bs=nb,E ps=np,E hs=nh,E ws=nw at *;obtain⟨W1,a4⟩:=Ex (S w (eZ #[Z a0 nb k0,Z a1 np k1,Z a2 nh k2,Z a3 nw k3,ai x,ai y] 39));have d9:Hh (PX 39 W1 (J w.1) (Z a0 nb k0) (Z a1 np k1) (Z a2 nh k2) (Z a3 nw k3) x y):=ay (by rw[a4];exact PX.zw _ _ _ _ _ _ _ _);have c9:Hh (Bl w W1):=ay (by rw[a4];exact(bJ _ _).alloc (nR _) _);go_enter func25,ntmps25;go_upto_region 1 with fail;rw[<-a4];clear a4;go_wp2;go_loopw [11] (λt wr=>∃(j:Nat),j<=n/\t=ai j/\Hh ((∀i,i<j->qW (U tl i qA))/\Bl W1 wr)) (mZ n);exact⟨0,nZ _,rfl,ay ⟨λi hi=>Oo,bJ _ _⟩⟩;obtain⟨j,e8,rfl,HT⟩:=hrel;have a5:=ay (bt c9 HT.2);by_cases a9:j<n
 .have i1:(j:Int)<n:=Oo;obtain⟨b,oo,ea,v0,v1,v2,c0,c1,c2,hI⟩:=HC _ a5 j a9;subst ea;have b1:=ay (HR j a9);have d3:=ay (HA j a9);obtain⟨W3,a6⟩:=Ex (S wr (eZ #[v0,v1,v2] 58));have b7:Bl wr W3:=by rw[a6];exact(bJ _ _).alloc (nR _) _
  have b8:Hh (TX W3 (J wr.1) v0 v1 v2):=ay (by rw[a6];exact TX.zw _ _ _ _);have KT:=ay (Uh (hI.zz b7) b1.o.e b1.o.x);have d4:=ay (bt HT.2 b7);have HP:=ay HT.1;obtain⟨e9,f7,e0,-⟩:=hI.e;obtain⟨f8,f9,e1,-⟩:=hI.x;obtain⟨g4,g5,e2,-⟩:=hI.k;subst e0 e1 e2;have ey:ql (U tl j qA).e (U tl j qA).x (U tl j qA).k=qW (U tl j qA):=rfl;rw[ey]at KT;have d5:Hh (qW (U tl j qA)->∀i,i<j+1->qW (U tl i qA)):=ay λhy i hi=>by
   by_cases e:i=j;rw[e];exact hy;exact HP i Oo
  generalize qW (U tl j qA)=y at KT d3 d5;generalize E (U tl j qA).x=nr at *;generalize E (U tl j qA).e=n0 at *;generalize E (U tl j qA).k=n2 at *;clear b7 hI HT ey b1;have d0:=b8.o.c0;have d1:=b8.o.c1;have d2:=b8.o.c2;go_upto_region 4 with fail;rw[<-a6];clear a6 c0 c1 c2;cases y
  .have e3:=ay (d3 rfl);go_wp2_with (go_at_call 40;apply KT.o.mono;rintro e w4 ⟨rfl,b9⟩);go_ret;exact⟨by rw[e3.o];rfl,bt (bt c9 d4) b9⟩
  go_wp2_with (go_at_call 40;apply KT.o.mono;rintro e w4 ⟨rfl,b9⟩);go_roundw;exact⟨j+1,Oo,Gg,ay ⟨d5 (by first|rfl|trivial),bt d4 b9⟩⟩;exact Im
 obtain rfl:j=n:=Oo;have i1:¬((j:Int)<j):=Oo;have M:=ay (K HT.1);have e4:=ay (d9.o.zz HT.2);clear HT HC HR HA K;have d6:Hh (∀W,Bl wr W->eQ W (az (J w.1) 0)=Q (Z a0 nb k0)/\eQ W (az (J w.1) 1)=Q (Z a1 np k1)/\eQ W (az (J w.1) 2)=Q (Z a2 nh k2)/\eQ W (az (J w.1) 3)=Q (Z a3 nw k3)/\eQ W (az (J w.1) 4)=Q (ai x)/\eQ W (az (J w.1) 5)=Q (ai y)):=ay λW O=>(e4.o.zz O).six;obtain⟨s0,s1,s2,s3,s4,s5⟩:=d6 _ (a7 _);have e5:=ay (KE _ (bt a5 (a7 _)));clear KE;go_upto_region 7 with fail;go_region_law (first
  |(go_simp;go_at_call 42;apply e5.o.mono;rintro e w2 ⟨v2,rfl,e6,d7⟩;have c7:=bt (a7 _) d7;obtain⟨r0,r1,r2,r3,r4,r5⟩:=d6 _ c7)
  |(go_simp;go_at_call 41;apply (KP.o _ _ (bt a5.o c7) e6).mono;rintro e w3 ⟨rfl,e7⟩)
  |fail)
 all_goals go_wp2_with fail
 all_goals go_ret
 all_goals exact⟨by first|(rw[M.o];rfl)|(rw[M.o];done)|rw[M.o],bt (bt a5 c7) e7⟩
open Meet
def J4(W:oX)(h:B<=J W.1):TBs (S W (eZ #[] 58)) B (sZ (J W.1) 0 0 0) []:=⟨oM W #[] 0 h Dd rfl,λt I=>by simp at I,iO⟩
def qDH w k x y{ws}(h:ITs w vt tl)(hl:E tl<=1048576)(hs':∀t∈tl,TvS t)(hp:IPl w v0 v1 v2 v3 bs ps hs ws)(h7:qS bs)(h8:E ps<=1099511627776):
 Cl 68 #[ai k,vt,aQ #[v0,v1,v2,v3,ai x,ai y]] w λe w'=>∃v rl,e=rE (.tuple #[v,ai (yh k tl bs ps hs ws (x,y))])/\TBs w' (J w.1) v rl/\rl.map tvB=vF k tl bs ps hs ws (x,y)/\Bl w w':=by
 obtain⟨iT,hj,j4,j5,j6⟩:=aX Tryz.infoTb;have l0:Tryz.prog.follows .mixedOrders:=Kl;have b9:∀W:oX,Bl W W.drew:=λW=>(bJ _ _).drew;have KA:=ay λW K=>QD W (h.zz K) Oo hs';have KE:=ay λW K=>jb W (h.zz K) hl;have KP:=ay λW v K hv=>Zw W v k x y hv (Vk hl hs') (hp.zz K).b h7 (hp.zz K).p h8 (hp.zz K).h (hp.zz K).d;have KB:Hh (qc k tl bs ps hs ws (x,y)->∀W vb j,Bl w W->j<E bs->IS W vb (U bs j [])->Cl 88 #[vb,vt] W λe w'=>∃(q0:OA) (m0 z0:Nat) (q1:OA) (m1 z1:Nat) (q2:OA) (m2 z2:Nat) (us:LV),e=rE (.tuple #[aQ #[Z q0 m0 z0,Z q1 m1 z1,Z q2 m2 z2],ai (bgV tl (U bs j []))])/\TWr w' (J W.1) ⟨Z q0 m0 z0,Z q1 m1 z1,Z q2 m2 z2,us,(bgT tl (U bs j [])).e,(bgT tl (U bs j [])).x,(bgT tl (U bs j [])).k⟩/\Bl W w'):=ay λhr W vb j K hj hb=>by
  obtain⟨r1,r2,r3,r4,r5⟩:=zR hr;apply (Vj W hb (h.zz K) (r5 j hj).2 r4 (λt ht=>aT.1 r1 t ht)).mono;rintro e w' ⟨x0,x1,x2,us,rfl,hT,hb'⟩;obtain⟨q0,z0,e0⟩:=qG hT.o0;obtain⟨q1,z1,e1⟩:=qG hT.rq.z;obtain⟨q2,z2,e2⟩:=qG hT.o2;subst e0 e1 e2;exact⟨_,_,_,_,_,_,_,_,_,us,rfl,hT,hb'⟩
 have e5:Hh (∀W,Bl w W->∀j,j<E bs->∃(a:OA) (b o:Nat) (u:oV) (cap:Nat),v0=Z a (E bs) cap/\a=Q (az b o)/\aC W b (o+j) u/\IS W u (U bs j [])):=ay λW K j hj=>by
  obtain⟨a,cap,e,hh⟩:=(hp.zz K).b;rcases hh with h0|⟨b,o,ea,hh⟩;omega;obtain⟨u,h1,h2⟩:=hh j hj;exact⟨a,b,o,u,cap,e,ea,h1,h2⟩
 have a9:Hh (qc k tl bs ps hs ws (x,y)=(tl.all qW&&zX k (tl.map TbV.e) bs ps hs ws (x,y))):=ay rfl;have c7:Hh (qc k tl bs ps hs ws (x,y)=nF->vF k tl bs ps hs ws (x,y)=[]/\yh k tl bs ps hs ws (x,y)=-1):=ay qJc;have O:Hh (∀j,j<E bs->bgV tl (U bs j [])<0->vF k tl bs ps hs ws (x,y)=[]/\yh k tl bs ps hs ws (x,y)=-1):=ay λj hj hn=>qIg hj hn;have V:Hh (qc k tl bs ps hs ws (x,y)->(∀i,i<E bs->0<=bgV tl (U bs i []))->vF k tl bs ps hs ws (x,y)=bs.map (bgT tl)/\yh k tl bs ps hs ws (x,y)=uB tl bs (E bs)):=ay qIh;have a4:Hh (qc k tl bs ps hs ws (x,y)->E bs<=12):=ay λhr=>(zR hr).2.2.1;have e6:Hh (∀j,j<E bs->uB tl bs (j+1)=uB tl bs j+bgV tl (U bs j [])):=ay λj hj=>Uj hj;have e7:=ay (qCa tl bs);have h9:Hh (∀b,-1<=bgV tl b/\bgV tl b<=60000):=ay λb=>⟨qCZ,qCY⟩;have e8:Hh (∀j,j<E bs->(bs.take (j+1)).map (bgT tl)=(bs.take j).map (bgT tl)++[bgT tl (U bs j [])]):=ay λj hj=>qEJ hj;have i0:Hh ((bs.take (E bs)).map (bgT tl)=bs.map (bgT tl)):=ay (by rw[tL]);obtain⟨a0,k0,rfl,-⟩:=hp.b;obtain⟨a1,k1,rfl,-⟩:=hp.p;obtain⟨a2,k2,rfl,-⟩:=hp.h;obtain⟨a3,k3,rfl,-⟩:=hp.d;clear hp h7 hs' h8;obtain⟨l1,ct,rfl,-⟩:=h;generalize zX k (tl.map TbV.e) bs ps hs ws (x,y)=PL,qc k tl bs ps hs ws (x,y)=RD,vF k tl bs ps hs ws (x,y)=GT,yh k tl bs ps hs ws (x,y)=GV,E tl=n at *;obtain⟨nb,i3⟩:=Ex (E bs);rw[<-i3]at KP KB e5 O V a4 e6 e7 e8 i0 |-;clear i3;generalize E ps=np at *;generalize E hs=nh at *;generalize E ws=nw at *;obtain⟨W1,a5⟩:=Ex (S w (eZ #[Z a0 nb k0,Z a1 np k1,Z a2 nh k2,Z a3 nw k3,ai x,ai y] 39));have i4:Hh (PX 39 W1 (J w.1) (Z a0 nb k0) (Z a1 np k1) (Z a2 nh k2) (Z a3 nw k3) x y):=ay (by rw[a5];exact PX.zw _ _ _ _ _ _ _ _);have a6:Hh (Bl w W1):=ay (by rw[a5];exact(bJ _ _).alloc (nR _) _);have a7:Hh (∀W,Bl W1 W->eQ W (az (J w.1) 0)=Q (Z a0 nb k0)/\eQ W (az (J w.1) 1)=Q (Z a1 np k1)/\eQ W (az (J w.1) 2)=Q (Z a2 nh k2)/\eQ W (az (J w.1) 3)=Q (Z a3 nw k3)/\eQ W (az (J w.1) 4)=Q (ai x)/\eQ W (az (J w.1) 5)=Q (ai y)):=ay λW K=>(i4.o.zz K).six;obtain⟨s0,s1,s2,s3,s4,s5⟩:=a7 _ (b9 _);have b7:=ay (KA _ (bt a6 (b9 _)));have c8:Hh (∀W,Bl w W->GT=[]/\GV=-1->∃v rl,Ending.returned (.tuple #[sZ (J W.1) 0 0 0,ai (-1)])=rE (.tuple #[v,ai GV])/\TBs (S W (eZ #[] 58)) (J w.1) v rl/\rl.map tvB=GT/\Bl w (S W (eZ #[] 58))):=ay λW K hg=>⟨_,[],by rw[hg.2],J4 W K.size,by rw[hg.1];rfl,x8 K _⟩;clear KA i4;cases hA:tl.all qW with
 |false=>
  rw[hA]at b7 a9;have HG:=ay (c7 a9);clear c7 a9 hA KB KP KE O V a4;go_enter func68,ntmps68;go_upto_region 1 with fail;rw[<-a5];clear a5
  first|go_region_law (first
   |(go_simp;go_at_call 84;apply b7.o.mono;rintro e w2 ⟨rfl,a8⟩;have I:=bt (b9 _) a8;obtain⟨r0,r1,r2,r3,r4,r5⟩:=a7 _ I)
   |fail)|fail
  all_goals go_wp2_with fail
  all_goals go_ret2
  all_goals exact c8 _ (bt a6 I) HG
 |true=>
  rw[hA]at b7 a9;rw[dG]at a9;have b8:=ay a9.o;clear hA a9;cases PL with
  |false=>
   have HG:=ay (c7 b8);clear c7 b8 KB O V a4;go_enter func68,ntmps68;go_upto_region 1 with fail;rw[<-a5];clear a5;go_region_law (first
    |(go_simp;go_at_call 84;apply b7.o.mono;rintro e w2 ⟨rfl,a8⟩;have I:=bt (b9 _) a8;obtain⟨r0,r1,r2,r3,r4,r5⟩:=a7 _ I)
    |(go_simp;go_at_call 64;apply (KE.o _ (bt a6.o I)).mono;rintro e w3 ⟨v3,rfl,e9,c9⟩;have b1:=bt I c9;obtain⟨t0,t1,t2,t3,t4,t5⟩:=a7 _ b1)
    |(go_simp;go_at_call 63;apply (KP.o _ _ (bt a6.o b1) e9).mono;rintro e w4 ⟨rfl,d3⟩;have f7:=bt b1 d3)
    |fail)
   all_goals go_wp2_with fail
   all_goals go_ret2
   all_goals exact c8 _ (bt a6 f7) HG
  |true=>
   have i5:=ay (KB b8);have k4:=ay (V b8);have h12:=a4 b8;clear c7 KB V a4 b8;go_enter func68,ntmps68;go_upto_region 1 with fail;rw[<-a5];clear a5;go_cut [24] from 14 to 23 (λv wx=>v=oB nF/\Hh (Bl W1 wx))
   case first=>
    go_region_law (first
     |(go_simp;go_at_call 84;apply b7.o.mono;rintro e w2 ⟨rfl,a8⟩;have I:=bt (b9 _) a8;obtain⟨r0,r1,r2,r3,r4,r5⟩:=a7 _ I)
     |(go_simp;go_at_call 64;apply (KE.o _ (bt a6.o I)).mono;rintro e w3 ⟨v3,rfl,e9,c9⟩;have b1:=bt I c9;obtain⟨t0,t1,t2,t3,t4,t5⟩:=a7 _ b1)
     |(go_simp;go_at_call 63;apply (KP.o _ _ (bt a6.o b1) e9).mono;rintro e w4 ⟨rfl,d3⟩;have f7:=bt b1 d3)
     |fail)
    all_goals(go_wp2;go_meet)
    all_goals exact⟨rfl,ay f7⟩
   case rest=>
   obtain⟨rfl,f8⟩:=hcut;generalize wc=w4 at *;have f9:=ay (bt a6 f8);have k5:=ay λW K=>(a7 W (bt f8 K)).1;clear b7 KE KP f8 s0 s1 s2 s3 s4 s5 a7;have s4:=f9.o.size;obtain⟨W5,g4⟩:=Ex (S w4 (eZ #[] 58));have d9:Hh (Bl w4 W5/\TBs W5 (J w4.1) (sZ (J w4.1) 0 0 0) []):=ay (by rw[g4];exact⟨aK,J4 _ (nR _)⟩);have c5:=k5 _ d9.1;go_upto_region 4 with fail;rw[<-g4];clear g4;go_wp2_with fail;clear c5;have i6:Hh ((0:Int)=uB tl bs 0):=ay rfl;go_loopw [8,9,30] (λv8 v9 t wr=>∃(j:Nat) (vj:oV) (z:Int),j<=nb/\t=ai j/\vj=v8/\v9=ai z/\Hh (z=uB tl bs j/\(∃rl,Bl w4 wr/\TBs wr (J w4.1) vj rl/\rl.map tvB=(bs.take j).map (bgT tl))/\∀i,i<j->0<=bgV tl (U bs i []))) (λ_ _ t _=>nb-(intOf t).toNat);exact⟨0,_,0,nZ _,rfl,rfl,rfl,ay ⟨i6,⟨[],d9.1,d9.2,rfl⟩,λi hi=>Oo⟩⟩;clear d9 i6;obtain⟨j,vj,z,k6,rfl,rfl,rfl,HT⟩:=hrel;obtain⟨hz,⟨rl,hB,hT,hE⟩,hV⟩:=HT.o;change Hh _ at hB hT hE hV hz;have k7:=e7 j k6;rw[<-hz]at k7;clear HT;by_cases d5:j<nb
   .have i1:(j:Int)<nb:=Oo;have g5:=ay (bt f9 hB);obtain⟨a,b,o,u,cap,ev,ea,e1,hu⟩:=e5 _ g5 j d5;simp only[vI,true_and]at ev;obtain⟨rfl,-⟩:=ev;subst ea;have g6:=ay (i5 _ u j g5 d5 hu);have g7:=ay (O j d5);have e3:=ay (e8 j d5);have g8:=ay (e6 j d5);have l2:=h9 (U bs j []);have h3:Hh (0<=bgV tl (U bs j [])->∀i,i<j+1->0<=bgV tl (U bs i [])):=ay λhy i hi=>by
     by_cases e:i=j;rw[e];exact hy;exact hV i Oo
    obtain⟨au,cu,rfl,-⟩:=hu;generalize E (U bs j [])=lb at *;obtain⟨tv,i7⟩:=Ex (bgT tl (U bs j []));rw[<-i7]at g6 e3;clear i7;generalize bgV tl (U bs j [])=BV at *;clear i5 O e8 e6 e7 h9 e5;go_upto_region 8 with (go_at_call 88;apply g6.o.mono;rintro e w6 ⟨q0,m0,z0,q1,m1,z1,q2,m2,z2,i8,rfl,i9,j0⟩);obtain⟨W7,e4⟩:=Ex (S w6 (eZ #[Z q0 m0 z0,Z q1 m1 z1,Z q2 m2 z2] 58));have h4:Bl w6 W7:=by rw[e4];exact(bJ _ _).alloc (nR _) _
    have d6:Hh (TX W7 (J w6.1) (Z q0 m0 z0) (Z q1 m1 z1) (Z q2 m2 z2)):=ay (by rw[e4];exact TX.zw _ _ _ _);have h5:Hh (TWr W7 (J wr.1) ⟨Z q0 m0 z0,Z q1 m1 z1,Z q2 m2 z2,i8,tv.e,tv.x,tv.k⟩):=ay (TW.zz i9 h4);have d7:=ay (bt j0 h4);rw[<-e4];clear e4 i9 j0 h4 g6 e1;by_cases j1:BV<0
    .have HG:=ay (g7 j1);clear d6 h5 hT hE hV h3 g7 e3 g8;go_wp2;go_ret2;exact c8 _ (bt g5 d7) HG
    have l3:E rl<=12:=by have h1:=congrArg List.length hE;rw[lM,lM,bZ]at h1;omega
    have h6:=ay (qB hT.o.z d7);have d0:=d6.o.c0;have d1:=d6.o.c1;have d2:=d6.o.c2;have l4:=d7.o.size;have k8:=hB.o.size;go_wp2_with (at_builtin;refine wpList_append_lies _ rfl _ _ 34 rfl (J w4.1) 58 iT (aQ #[sn,sn,sn]) 3 72 underlying34 hj j4 j5 j6 rfl Dd vj (E rl) (rl.flatMap tcs) rfl (h6.o.alloc _) (az _ 0) 1 1 [Z q0 m0 z0,Z q1 m1 z1,Z q2 m2 z2] rfl rfl (uT _ _ _ _ _) (λu hu=>by simp at hu;rcases hu with rfl|rfl|rfl <;> rfl) Dd Um Oo Sy _ rfl ?_;intro g9 k9 w9 d8 M j2 j3);have HN:Hh (z+BV=uB tl bs (j+1)/\(∃rl',Bl w4 w9/\TBs w9 (J w4.1) (sZ g9 0 (E rl+1) k9) rl'/\rl'.map tvB=(bs.take (j+1)).map (bgT tl))/\∀i,i<j+1->0<=bgV tl (U bs i [])):=ay ⟨by rw[g8.o,hz.o],⟨_,(x8 (bt hB d7) _).grown M Sy (λq hq=>(h6.o.lt q hq).1),hT.o.M k8 W7 ⟨Z q0 m0 z0,Z q1 m1 z1,Z q2 m2 z2,i8,tv.e,tv.x,tv.k⟩ _ w9 _ d7 h5 M d8,by rw[mA,hE.o,e3.o];rfl⟩,h3 Oo⟩;clear d8 M j2 j3 h6 hT h5 d6 hE hV h3 g7 e3 g8 hz d0 d1 d2;go_wp2;go_roundw;exact⟨j+1,_,z+BV,Oo,Gg,rfl,rfl,HN⟩;exact Im
   obtain rfl:j=nb:=Oo;have i1:¬((j:Int)<j):=Oo;have HG:=ay (k4 hV);go_wp2;go_ret2;refine⟨vj,?_,rl,hT.o.zx s4,?_,bt f9.o hB.o⟩;rw[HG.o.2,<-hz.o];rfl;rw[HG.o.1,hE.o,i0.o]
def qAw w vo{o}(h:ITs w vt tl)(ho:IS w vo o)(hl:E tl<=1000)(e9:E o<=1000)(f7:∀t∈tl,TvJ t)(g9:YP tl o):
 Cl 61 #[vt,vo] w λe w'=>∃v,e=rE (.tuple #[v,ai (if smJ tl o (E o) then (viJ tl o (E o):Int) else -1)])/\Fz (J w.1) (λW=>ISS W v (if smJ tl o (E o) then lvJ tl o (E o) else [])) w'/\Bl w w':=by
 obtain⟨i0,hi,l1,l2,l3⟩:=aX Tryz.infoInt;obtain⟨iS,hj,r4,r5,r6⟩:=aX Tryz.infoIS;have f8:=ay (Jh w vt vo tl o h ho hl e9 f7);have r7:Hh (∀p,E (nxJ tl o p)<=10000):=ay λp=>qHo f7 p;have l4:Hh (∀W vS vp p k,Bl w W->ISds W vS (tl.map (sdT o))->IS W vp p->p∈lvJ tl o k->k<E o->Cl 77 #[vS,vo,vp] W λe w'=>∃g c,e=rE (Z (Q (az g 0)) (E (nxJ tl o p)) c)/\oW w' (J W.1) 3 1 (Z (Q (az g 0)) (E (nxJ tl o p)) c) (E (nxJ tl o p)) ((nxJ tl o p).map ai)/\Bl W w'):=ay λW vS vp p k hW hS hp hm hk=>by
  have v8:=jx p hm;refine qAv W vS vo vp (tl.map (sdT o)) o p hS (ho.zz hW) hp Oo e9 (by rw[lM];exact hl) (λs hs=>?_) (qHn p hm) (qJk g9 Oo) (λs hs=>?_);obtain⟨t,ht,rfl⟩:=cC.1 hs;exact⟨uI o t,bM (Qz o t) (by have:=(f7 t ht).n;omega),bM (j7 _ _) e9⟩;obtain⟨t,ht,rfl⟩:=cC.1 hs;exact qJE Oo
 obtain⟨r8,ct,rfl,hc⟩:=h;obtain⟨ao,co,rfl,-⟩:=ho;have HC:Hh (∀W,Bl w W->∀j,j<E tl->∃b oo,r8=Q (az b oo)/\TabAt W b (oo+j*3) (U tl j qA)):=ay λW hW j hj=>by
  rcases hc with h0|⟨b,oo,rfl,h⟩;omega;exact⟨b,oo,rfl,(h j hj).zz hW⟩
 have l5:Hh (∀j,j<E tl->(tl.take (j+1)).any (λt=>oD (E t.x=0))=((tl.take j).any (λt=>oD (E t.x=0))||oD (E (U tl j qA).x=0))):=ay λj hj=>by
  rw[tA,gE hj,any_append,gD,gE hj];simp
 have l6:Hh ((tl.take (E tl)).any (λt=>oD (E t.x=0))=xd tl):=ay (by rw[tL];rfl);have l7:Hh ((tl.take 0).any (λt=>oD (E t.x=0))=nF):=ay rfl;obtain⟨EM,l8⟩:=Ex (λj=>(tl.take j).any (λt=>oD (E t.x=0)):NB);have d0:Hh (EM 0=nF/\EM (E tl)=xd tl/\∀j,j<E tl->EM (j+1)=(EM j||oD (E (U tl j qA).x=0))):=ay (by rw[l8];exact⟨l7.o,l6.o,l5.o⟩);clear l8 l5 l6 l7;obtain⟨n,hn⟩:=Ex (E tl);rw[<-hn]at hl HC d0 f8 |-;clear hn hc f7 g9;obtain⟨no,d2⟩:=Ex (E o);rw[<-d2]at e9 l4 f8 |-;clear d2;obtain⟨AN,h8⟩:=Ex ((if smJ tl o no then (viJ tl o no:Int) else -1):Int);obtain⟨AL,h9⟩:=Ex ((if smJ tl o no then lvJ tl o no else []):LL);rw[<-h8,<-h9];change Hh _ at h8 h9;go_enter func61,ntmps61;go_upto_region 2 with (go_at_call 76;apply f8.o.mono;rintro e w1 ⟨vS,rfl,m1,m2⟩);have m3:=ay m1;change Hh _ at m2;obtain⟨aS,cS,rfl,-⟩:=m1;have r9:E (tl.map (sdT o))=E (tl.map (sdT o)):=rfl;generalize E (tl.map (sdT o))=ns at *;clear f8 r9;obtain⟨W2,d3⟩:=Ex (S (S w1 (eZ #[] 3)) (eZ #[sZ (J w1.1) 0 0 0] 24));have i5:Bl w1 W2:=by rw[d3];exact QC (QC (bJ _ _))
 have m4:Hh (Fz (J w.1) (λW=>ISSn W (sZ (J w1.1+1) 0 1 1) [[]]) W2):=ay λW' s3=>by
  refine⟨_,1,rfl,Or.inr ⟨J w1.1+1,0,rfl,λj hj=>?_⟩⟩;obtain rfl:j=0:=by simpa using hj
  refine⟨(az (J w1.1) 0),0,?_,⟨_,0,rfl,Or.inl rfl⟩⟩;have hsz:J W2.1=J w1.1+2:=by rw[d3];simp
  rw[bF (w:=W2) (a:=(az (J w1.1+1) (0+0))) (s3 (J w1.1+1) (O1 m2.o.size) Oo),d3,bE _ _ _ _ Ss];rfl
 have i6:=ay (bt m2.o i5);have m5:=ay (m3.o.zz i5);clear i5 m3 m2;go_upto_region 3 with fail;rw[<-d3];clear d3;have m6:=ay λj=>qGE tl o j;have m7:Hh (xd tl->lvJ tl o 0=[]):=ay λh=>by unfold lvJ;rw[fE h]
 have m8:Hh (xd tl=nF->lvJ tl o 0=[[]]):=ay λh=>by unfold lvJ;rw[h];rfl
 have m9:Hh (∀j,∀q∈lvJ tl o j,E q=j):=ay λj q hq=>jx q hq;have i7:Hh (smJ tl o 0/\(∀j,smJ tl o (j+1)=(smJ tl o j&&oD (E (lvJ tl o (j+1))<=10000)))/\(∀j k,j<k->¬E (lvJ tl o (j+1))<=10000->smJ tl o k=nF)):=ay ⟨rfl,λj=>YO tl o j,λj k h1 h2=>U6 h1 h2⟩;have i8:Hh (viJ tl o 0=0/\(∀j,viJ tl o (j+1)=viJ tl o j+E (lvJ tl o (j+1)))/\∀j,smJ tl o j->viJ tl o j<=j*10000):=ay ⟨rfl,λj=>qAq tl o j,λj h=>qAr h⟩;go_upto_block 0 with fail;go_cut [7] (λv7 wx=>∃vl,vl=v7/\Hh (Fz (J w.1) (λW=>ISSn W vl (lvJ tl o 0)) wx/\Bl W2 wx))
 case first=>
  go_wp2;go_loopw [7,23] (λv7 t wr=>∃(j:Nat) (vl:oV),j<=n/\t=ai j/\vl=v7/\Hh (vl=(if EM j then sn else sZ (J w1.1+1) 0 1 1)/\Bl W2 wr)) (λ_ t _=>n-(intOf t).toNat);exact⟨0,_,nZ _,rfl,rfl,ay ⟨by rw[d0.o.1];rfl,bJ _ _⟩⟩;obtain⟨j,vl,v9,rfl,rfl,O⟩:=hrel;by_cases d4:j<n
  .have i1:(j:Int)<n:=Oo;obtain⟨b,oo,ea,v0,v1,v2,c0,c1,c2,hI⟩:=HC.o wr (bt i6.o O.o.2) j d4;subst ea;have HE:=ay (d0.o.2.2 j d4);obtain⟨a0,k0,e0,-⟩:=hI.e;obtain⟨a1,k1,e1,-⟩:=hI.x;obtain⟨a2,k2,e2,-⟩:=hI.k;subst e0 e1 e2;clear hI;generalize E (U tl j qA).x=nr at *;generalize E (U tl j qA).e=n0 at *;generalize E (U tl j qA).k=n2 at *;obtain⟨W3,f9⟩:=Ex (S wr (eZ #[Z a0 n0 k0,Z a1 nr k1,Z a2 n2 k2] 58));have n3:Bl wr W3:=by rw[f9];exact(bJ _ _).alloc (nR _) _
   have d1:eQ W3 (az (J wr.1) 1)=Q (Z a1 nr k1):=by rw[f9,bE _ _ _ _ rfl];rfl
   have g4:=ay (bt O.o.2 n3);have HV:=ay O.o.1;clear n3 O;go_upto_region 6 with fail;rw[<-f9];clear f9 c0 c1 c2;by_cases hz:nr=0
   .subst hz;go_wp2;go_roundw
    case rel=>first|exact⟨j+1,_,Oo,Gg,rfl,ay ⟨by rw[HE.o];simp,g4.o⟩⟩|((repeat apply oJ);exact⟨⟨j+1,_,Oo,Gg,rfl,ay ⟨by rw[HE.o];simp,g4.o⟩⟩,rfl⟩)
    case measure=>exact Im
   have q1:((nr:Int) == 0)=false:=Sy;have n4:Hh (EM (j+1)=EM j):=ay (by rw[HE.o,fC hz,Bool.or_false]);go_wp2;go_roundw
   case rel=>first|exact⟨j+1,_,Oo,Gg,rfl,ay ⟨by rw[n4.o];exact HV.o,g4.o⟩⟩|((repeat apply oJ);exact⟨⟨j+1,_,Oo,Gg,rfl,ay ⟨by rw[n4.o];exact HV.o,g4.o⟩⟩,rfl⟩)
   case measure=>exact Im
  obtain rfl:j=n:=Oo;have i1:¬(j:Int)<j:=Oo;have HF:Hh (Fz (J w.1) (λW=>ISSn W vl (lvJ tl o 0)) wr/\Bl W2 wr):=ay ⟨by
   rw[O.o.1,d0.o.2.1];by_cases he:xd tl=true;rw[fE he,m7.o he];exact λ_ _=>⟨none,0,rfl,Or.inl rfl⟩;rw[fF he,m8.o (by simpa using he)];exact m4.o.zz O.o.2,O.o.2⟩
  clear O;go_wp2;go_meet;exact⟨vl,rfl,HF⟩
 case rest=>
 obtain⟨w2,rfl,HL⟩:=hcut;have n5:=ay (bt i6.o HL.o.2);have s4:=ay (m5.o.zz HL.o.2);have n6:=ay HL.o.1;clear HL i6 m5 m4 d0 m7 m8 HC;generalize wc=W4 at *;go_wp2;go_loopw [7,10,34] (λv7 v10 t wr=>∃(k vis:Nat) (vl:oV),k<=no/\t=ai k/\v10=ai vis/\vl=v7/\Hh (smJ tl o k/\vis=viJ tl o k/\Fz (J w.1) (λW=>ISSn W vl (lvJ tl o k)) wr/\Bl W4 wr)) (λ_ _ t _=>no-(intOf t).toNat);exact⟨0,0,_,nZ _,rfl,rfl,rfl,ay ⟨i7.o.1,i8.o.1.symm,n6.o,bJ _ _⟩⟩;clear n6;obtain⟨k,vis,vl,hk,rfl,rfl,rfl,O⟩:=hrel;by_cases d4:k<no
 .have i1:(k:Int)<no:=Oo;obtain⟨a5,K,c7,a6⟩:=O.o;have w4:vis<=k*10000:=by rw[K];exact i8.o.2.2 k a5
  have n7:=ay a5;have n8:=ay K;have i9:=ay (bt n5.o a6);have n9:=ay a6;have s5:=ay (s4.o.zz a6);have g5:=ay c7.self;obtain⟨al,cl,rfl,-⟩:=c7.self;have h5:=qEy a5;clear O a5 K a6 c7;obtain⟨L,hL⟩:=Ex (lvJ tl o k);have j0:Hh (∀i,i<E L->U L i []∈lvJ tl o k):=ay λi hi=>by rw[<-hL,gD,gE hi];exact gM _
  have d5:Hh (lvJ tl o (k+1)=nxL (nxJ tl o) L (E L)):=ay (by rw[m6.o,<-hL];unfold nxL;rw[tL]);have o3:Hh (∀i,E (nxL (nxJ tl o) L i)<=E (lvJ tl o (k+1))):=ay λi=>by rw[m6.o,<-hL];exact qJH
  have o4:Hh (∀i,i<E L->nxL (nxJ tl o) L (i+1)=nxL (nxJ tl o) L i++(nxJ tl o (U L i [])).map λv=>U L i []++[v]):=ay λi hi=>qGI hi;have j1:=ay λi hi=>m9.o k _ (j0.o i hi);rw[<-hL]at g5 h5 |-;clear hL;obtain⟨nl,j2⟩:=Ex (E L);have t7:=ay j2;rw[<-j2]at j0 d5 o4 j1 g5 h5 |-;have o5:Hh (∀W,Bl wr W->∀i,i<nl->∃b oo ad c,al=Q (az b oo)/\eQ W (az b (oo+i))=Q (Z (Q ad) k c)/\IS W (Z (Q ad) k c) (U L i [])):=ay λW hW i hi=>by
   obtain⟨a',c',e,hh⟩:=g5.o;simp only[vI]at e;obtain⟨rfl,-,-⟩:=e;rcases hh with h0|⟨b,oo,ea,hh⟩;omega;obtain⟨ad,c,h1,h2⟩:=hh i Oo;rw[j1.o i hi]at h1 h2;exact⟨b,oo,ad,c,ea,qGH hW h1,h2.zz hW⟩
  clear j2 g5;obtain⟨W5,j3⟩:=Ex (S wr (eZ #[] 24));have j4:Hh (Bl wr W5/\RQ W5 (J wr.1) (sZ (J wr.1) 0 0 0) [] []):=ay (by
   rw[j3];exact⟨aK,oM wr #[] 0 (nR _) Dd rfl,rfl,λi hi=>by simp at hi,λi j _ hj=>by simp at hj⟩)
  go_upto_region 13 with fail;rw[<-j3];clear j3;generalize wr=wo at *;go_wp2;go_loopw [11,39] (λv11 t wr=>∃(i:Nat) (vn:oV),i<=nl/\t=ai i/\vn=v11/\Hh (∃un,Bl wo wr/\RQ wr (J wo.1) vn un (nxL (nxJ tl o) L i)/\E (nxL (nxJ tl o) L i)<=10000)) (λ_ t _=>nl-(intOf t).toNat);exact⟨0,_,nZ _,rfl,rfl,ay ⟨[],j4.o.1,j4.o.2,nZ _⟩⟩;clear j4;obtain⟨i,vn,w5,rfl,rfl,O⟩:=hrel;obtain⟨un,o6,o7,s6⟩:=O.o;have a7:=ay o6;have d6:=ay o7;clear O o6 o7;by_cases a9:i<nl
  .have i2:(i:Int)<nl:=Oo;obtain⟨b,oo,ad,c,ea,e0,d7⟩:=o5.o wo (bJ _ _) i a9;subst ea;have e1:=qGH a7.o e0;have o8:=d7.zz a7.o;have h6:Hh (∀W,Bl wo W->IS W (Z (Q ad) k c) (U L i [])):=ay λW hW=>d7.zz hW;clear e0 d7;have d8:=ay (l4.o wr _ _ (U L i []) k (bt i9.o a7.o) (s5.o.zz a7.o) o8 (j0.o i a9) d4);have b1:=ay (o4.o i a9);have o9:=ay (j1.o i a9);have j5:=r7.o (U L i []);obtain⟨q,hq⟩:=Ex (U L i []);rw[<-hq]at d8 h6 b1 o9 j5;clear hq o8;obtain⟨xs,p1⟩:=Ex (nxJ tl o q);rw[<-p1]at d8 b1 j5;clear p1;obtain⟨nx,j6⟩:=Ex (E xs);have c8:=ay j6;rw[<-j6]at d8 j5;clear j6;generalize wr=wm at *;go_upto_block 6 with (go_at_call 77;apply d8.o.mono;rintro e w6 ⟨gx,cx,rfl,p2,k3⟩);have p3:=ay p2;have s7:=ay (bt a7.o k3);have p4:=ay (d6.o.zz k3);clear p2 k3 d8 e1 d6;go_wp2;go_loopw [11,48] (λv11 t wr=>∃(m:Nat) (c9:oV),m<=nx/\t=ai m/\c9=v11/\Hh (∃a8,Bl wo wr/\RQ wr (J wo.1) c9 a8 (nxL (nxJ tl o) L i++mxL q xs m)/\oW wr (J wm.1) 3 1 (sZ gx 0 nx cx) nx (xs.map ai))) (λ_ t _=>nx-(intOf t).toNat);exact⟨0,vn,nZ _,rfl,rfl,ay ⟨un,s7.o,by show RQ _ _ _ _ (_++[]);rw[dU];exact p4.o,p3.o⟩⟩;clear p3 p4;obtain⟨m,c9,s8,rfl,rfl,O⟩:=hrel;obtain⟨a8,p5,p6,p7⟩:=O.o;have d9:=ay p5;have e3:=ay p6;have k4:=ay p7;clear O p5 p6 p7;have hlen:E (nxL (nxJ tl o) L i++mxL q xs m)=E (nxL (nxJ tl o) L i)+m:=by rw[lA,qHx (by rw[<-c8.o];exact s8)]
   by_cases e4:m<nx
   .have i3:(m:Int)<nx:=Oo;have w7:eQ wr (az gx m)=Q (ai (U xs m 0)):=by
     rw[k4.o.cellAt m Oo,bK,gE (by rw[<-c8.o];exact e4),gD,gE (by rw[<-c8.o];exact e4)];rfl
    have p8:=h6.o _ (bt d9.o ((bJ _ wr).alloc (nR _) (eZ #[] 3)));have s9:=ay (qJg p8);have e5:oW (S wr (eZ #[] 3)) (J wr.1) 3 1 (sZ (J wr.1) 0 0 0) 0 []:=oM wr #[] 0 (nR _) Dd rfl;have p9:=ay e5;have t0:=d9.o.size;have q0:=o9.o;have t1:=ay (qGJ (q:=q) (xs:=xs) (m:=m) (by rw[<-c8.o];exact e4));have hkb:k<=1000:=Oo;generalize U xs m 0=xv at *;clear p8 e5;have h7:=ay q0;clear q0;go_wp2_with (first
     |(at_builtin;refine eP _ rfl _ _ 24 rfl (J wr.1) 3 i0 (ai 0) 1 8 underlying24 hi l1 l2 l3 rfl Dd (sZ (J wr.1) 0 0 0) 0 [] rfl p9.o ad k c (q.map ai) rfl (by rw[lM,h7.o];omega) s9.o (λu hu=>by obtain⟨x,_,rfl⟩:=cC.1 hu;rfl) Um Oo Ss ?_;intro v55 w8 b7 a3 _;have e6:=(by simpa using b7);have e7:=((bJ _ wr).alloc (nR _) (eZ #[] 3)).grown a3 Ss (λk hk=>(p9.o.lt k hk).1);have q2:=e7.size;clear b7 a3)
     |(at_builtin;refine apL rfl rfl underlying24 Tryz.infoInt (e6.alloc _) rfl rfl (qH _ _ _) Sy ?_;intro g6 g7 q3 V a4 k5 k6;have M:=(e7.alloc q2 _).grown a4 Sy (λk hk=>(e6.lt k hk).1);have t8:=M.size;have b8:q3.ownsRow (J wo.1) 24 1 c9 (E (nxL (nxJ tl o) L i)+m) a8:=by { have:=(e3.o.zz M).z;rwa[hlen]at this })
     |(at_builtin;refine apL rfl rfl underlying23 Tryz.infoIS (b8.alloc _) rfl rfl (qH _ _ _) Sy ?_;intro t2 t3 k7 b9 I k8 k9)
     |fail)
    have HN:Hh (∃q4,Bl wo k7/\RQ k7 (J wo.1) (sZ t2 0 (E (nxL (nxJ tl o) L i)+m+1) t3) q4 (nxL (nxJ tl o) L i++mxL q xs (m+1))/\k7.ownsRow (J wm.1) 3 1 (sZ gx 0 nx cx) nx (xs.map ai)):=ay (by
     have q5:=e3.o.zz M;have q6:q3.ownsRow (J wo.1) 3 1 (sZ g6 0 (k+1) g7) (E (q++[xv])) ((q++[xv]).map ai):=by
      rw[lA,lS,h7.o,mA];exact qE V t0
     have hap:∀j,j<E (nxL (nxJ tl o) L i++mxL q xs m)->∀g,(U a8 j tM).ownBlock=Q g->(sZ g6 0 (k+1) g7).ownBlock≠Q g:=λj hj g h1 h2=>by
      have a1:=((e3.o.l j hj).lt g h1).2;have a2:=(V.lt g h2).1;omega
     refine⟨a8++[sZ g6 0 (k+1) g7],(QC (bt d9.o M)).grown I Sy (λq hq=>(b8.lt q hq).1),?_,?_⟩;rw[t1.o,<-dN];have:=q5.P q6 hap (by rw[hlen];exact b9) I;exact this;have e8:=qB k4.o M;refine qD e8 λg hg=>?_;obtain⟨cur,q7⟩:=qK e8 hg;exact zD I (e8.lt g hg).2 (own_ne b8 ⟨cur,q7⟩ Dd))
    clear b9 I k8 k9 V a4 k5 k6 b8 M e7 e6;go_roundw;exact⟨m+1,_,Oo,Gg,rfl,HN⟩;exact Im
   obtain rfl:m=nx:=Oo;have i3:¬((m:Int)<m):=Oo;have g8:Hh (RQ wr (J wo.1) c9 a8 (nxL (nxJ tl o) L (i+1))):=ay (by
    rw[b1.o];have:=e3.o;unfold mxL at this;rwa[c8.o,tL]at this)
   have t4:=ay (o3.o (i+1));have l0:E (nxL (nxJ tl o) L (i+1))=E (nxL (nxJ tl o) L i)+m:=by rw[b1.o,lA,lM,<-c8.o]
   obtain⟨av,cv,ev,-,-⟩:=g8.o.rs.sl;rw[l0]at ev;subst ev;clear e3 k4 hlen;by_cases t9:E (nxL (nxJ tl o) L i)+m<=10000
   .have q9:¬((10000:Int)<((E (nxL (nxJ tl o) L i)+m:Nat):Int)):=Oo;have HN:Hh (∃un,Bl wo wr/\RQ wr (J wo.1) (Z av (E (nxL (nxJ tl o) L i)+m) cv) un (nxL (nxJ tl o) L (i+1))/\E (nxL (nxJ tl o) L (i+1))<=10000):=ay ⟨_,d9.o,g8.o,Oo⟩;clear g8 l0;generalize E (nxL (nxJ tl o) L i)+m=tot at *;go_wp2;go_roundw;exact⟨i+1,_,Oo,Gg,rfl,HN⟩;exact Im
   have q9:((10000:Int)<((E (nxL (nxJ tl o) L i)+m:Nat):Int)):=Oo;have d2:=i7.o.2.2 k no d4 (O1 t4.o);have q8:=ay d2;clear l0 g8 d2;generalize E (nxL (nxJ tl o) L i)+m=tot at *;go_wp2;go_ret2;exact⟨_,by rw[h8.o,q8.o];rfl,by rw[h9.o,q8.o];exact λ_ _=>⟨_,0,rfl,Or.inl rfl⟩,bt i9.o (QC d9.o)⟩
  obtain rfl:i=nl:=Oo;have i2:¬((i:Int)<i):=Oo;obtain⟨av,cv,ev,-,-⟩:=d6.o.rs.sl;subst ev;have t5:Hh (Fz (J w.1) (λW=>ISSn W (Z av (E (nxL (nxJ tl o) L i)) cv) (lvJ tl o (k+1))) wr):=ay (by
   rw[d5.o];exact(d6.o.fz.mono i9.o.size).imp λW hW=>hW.issn λj hj=>by
    have hm:U (nxL (nxJ tl o) L i) j []∈lvJ tl o (k+1):=by rw[d5.o,gD,gE hj];exact gM _
    have:=m9.o (k+1) _ hm;omega)
  have r3:Hh (smJ tl o (k+1)/\vis+E (nxL (nxJ tl o) L i)=viJ tl o (k+1)):=ay ⟨by rw[i7.o.2.1,n7.o,dG];exact fD (by rw[d5.o];exact s6),by rw[i8.o.2.1,n8.o,d5.o]⟩;have t6:=ay (bt n9.o a7.o);clear d6 a7 o5;generalize E (nxL (nxJ tl o) L i)=tot at *;have v6:vis+tot<=100000000:=Oo;go_wp2;go_roundw;exact⟨k+1,vis+tot,_,Oo,Gg,by first|rfl|go_num|(rw[Int.natCast_add]),rfl,ay ⟨r3.o.1,r3.o.2,t5.o,t6.o⟩⟩;exact Im
 obtain rfl:k=no:=Oo;have i1:¬((k:Int)<k):=Oo;obtain⟨a5,K,c7,a6⟩:=O.o;have HF:Hh (smJ tl o k/\vis=viJ tl o k/\Fz (J w.1) (λW=>ISS W vl (lvJ tl o k)) wr/\Bl w wr):=ay ⟨a5,K,c7.imp λ_ h=>h.iss,bt n5.o a6⟩;clear O a5 K c7 a6;go_wp2;go_ret2;obtain⟨h1,h2,h3,h4⟩:=HF.o;exact⟨_,by rw[h8.o,h1,fE rfl,<-h2];rfl,by rw[h9.o,h1,fE rfl];exact h3,h4⟩
structure ShTb(lo hi:Nat)(W:oX)(g i:Nat)(t:TbV):Prop where
 e:∃c,eQ W (az g (i*3))=Q (sZ c 0 (E t.e) (E t.e))/\ShI lo hi W c (E t.e)
 x:∃G,eQ W (az g (i*3+1))=Q (sZ G 0 (E t.x) (E t.x))/\ShSS lo hi W G (E t.x) (λj=>E (U t.x j []))
 k:∃c,eQ W (az g (i*3+2))=Q (sZ c 0 (E t.k) (E t.k))/\ShI lo hi W c (E t.k)
def ShTb.kp{t}(h:ShTb lo hi W g i t)(k:Mk lo hi W W'):ShTb lo hi W' g i t:=by
 obtain⟨c0,I,K⟩:=h.e;obtain⟨G,M,O⟩:=h.x;obtain⟨c2,V,h2⟩:=h.k;exact⟨⟨c0,k.sl _ _ _ _ _ I,K.kp k⟩,⟨G,k.sl _ _ _ _ _ M,O.kp k⟩,⟨c2,k.sl _ _ _ _ _ V,h2.kp k⟩⟩
def qJN(lo hi:Nat)(W:oX)(g:Nat)(tl:List TbV):Prop:=∀i,i<E tl->ShTb lo hi W g i (U tl i qA)
def HalfT.sh(h:HalfT W g (E tl) (E tl) tl):qJN g (J W.1) W g tl:=λi hi=>by
 obtain⟨g0,g1,g2,f,c0,c1,c2,ho⟩:=h.copy i hi;have K:=ho.lt0;have M:=ho.lt1;have O:=ho.lt3;refine⟨⟨g0,c0,ho.vr.sh Oo ho.vr.lt⟩,⟨g1,c1,λj I=>?_⟩,⟨g2,c2,ho.wt.sh Oo ho.wt.lt⟩⟩;have e:=ho.rw.cell j I;rw[fE I]at e;have V:=ho.rw.gt j I;exact⟨f j,e,(ho.rw.z j I).sh Oo (ho.rw.z j I).lt⟩
def HalfT.its(h:HalfT W g (E tl) (E tl) tl):ITs W (sZ g 0 (E tl) c) tl:=by
 refine⟨_,_,rfl,Or.inr ⟨g,0,rfl,λj I=>?_⟩⟩;obtain⟨g0,g1,g2,f,c0,c1,c2,ho⟩:=h.copy j I;rw[cU];exact⟨_,_,_,c0,c1,c2,ho.it⟩
def Jl cap(h:qJN lo hi w g tl)(hn:E tl+xf tl<=1048576):
 Cl 15 #[sZ g 0 (E tl) cap,ai 1] w λe w'=>∃z:Nat,e=rE (ai (z:Int))/\z<=1048577/\Mk lo hi w w':=by
 have HS:Hh (∀wr,Mk lo hi w wr->∀i,i<E tl->ShTb lo hi wr g i (U tl i qA)):=ay λwr M i hi=>(h i hi).kp M;have a6:Hh (∀j,j<E tl->xf (tl.take (j+1))=xf (tl.take j)+szB (U tl j qA)):=ay λj hj=>by
  unfold xf;rw[tA,gE hj,mA,sum_append,gD,gE hj];simp
 have O:Hh (∀j,j<=E tl->xf (tl.take j)<=xf tl):=ay λj _=>by
  have:xf tl=xf (tl.take j)+xf (tl.drop j):=by
   unfold xf;rw[<-sum_append,<-mA,tD]
  omega
 have HZ:Hh (∀t:TbV,szB t=E t.e+(E t.x+uJ (λj=>E (U t.x j [])) (E t.x))+E t.k):=ay λt=>by unfold szB;rw[YS t.x (E t.x) (nR _)]
 obtain⟨n,a7⟩:=Ex (E tl);rw[<-a7]at HS a6 O hn |-;clear a7 h;go_enter func15,ntmps15;go_wp2;go_loopw [1,5] (λu t wr=>∃(j c:Nat),j<=n/\t=ai j/\u=ai (c:Int)/\c<=1+xf (tl.take j)/\Hh (Mk lo hi w wr)) (λ_ t _=>n-(intOf t).toNat);exact⟨0,1,nZ _,rfl,rfl,Oo,ay (Mk.refl _ _ _)⟩;obtain⟨j,c,hj,rfl,rfl,hc,HM⟩:=hrel;have hsj:=O j hj;by_cases V:j<n
 .have i1:(j:Int)<n:=Oo;have hS:=HS _ HM j V;have hsu:=a6 j V;have b9:=O (j+1) V;have hz:=HZ (U tl j qA);obtain⟨b0,c0,s0⟩:=hS.e;have a3:Hh (∀W,Mk lo hi wr W->ShTb lo hi W g j (U tl j qA)):=ay λW M=>hS.kp M;generalize U tl j qA=tb at *;have K0:=ay (yY _ _ (E tb.e) c s0 Oo Oo);obtain⟨L1,a8⟩:=Ex (c+E tb.e);obtain⟨L2,a9⟩:=Ex (L1+uJ (λj=>E (U tb.x j [])) (E tb.x));obtain⟨L3,b1⟩:=Ex (L2+E tb.k);rw[<-a8]at K0;have KR:Hh (∀W,Mk lo hi wr W->∃G,aC W g (j*3+1) (sZ G 0 (E tb.x) (E tb.x))/\Cl 18 #[sZ G 0 (E tb.x) (E tb.x),ai (L1:Int)] W λe w'=>e=rE (ai (L2:Int))/\Mk lo hi W w'):=ay λW M=>by
   obtain⟨G,h1,h2⟩:=(a3 W M).x;refine⟨G,h1,?_⟩;have:=Zu W G (E tb.x) L1 h2 Oo Oo Oo;rwa[<-a9]at this
  have KW:Hh (∀W,Mk lo hi wr W->∃G,aC W g (j*3+2) (sZ G 0 (E tb.k) (E tb.k))/\Cl 17 #[sZ G 0 (E tb.k) (E tb.k),ai (L2:Int)] W λe w'=>e=rE (ai (L3:Int))/\Mk lo hi W w'):=ay λW M=>by
   obtain⟨G,h1,h2⟩:=(a3 W M).k;refine⟨G,h1,?_⟩;have:=yY W G (E tb.k) L2 h2 Oo Oo;rwa[<-b1]at this
  have b7:L3<=1+xf (tl.take (j+1)):=Oo;clear s0 hS a8 a9 b1 hz a3;generalize E tb.e=n0,E tb.x=nr,E tb.k=n2 at *;go_wp2_with (first
   |(go_at_call 17;apply K2.mn;intro w4 I;have b8:=ay (HM.o.trans (a4.trans I)))
   |(go_at_call 18;apply K1.mn;intro w3 K;have a4:=a5.trans K;obtain⟨G2,d2,K2⟩:=KW _ a4)
   |(go_at_call 17;apply K0.o.mn;intro w2 a5;obtain⟨G1,d1,K1⟩:=KR _ a5)
   |fail)
  clear a5 a4 K I K1 K2 K0 KR KW;go_roundw;exact⟨j+1,L3,Oo,Gg,rfl,b7,b8⟩;exact Im
 obtain rfl:j=n:=Oo;have i1:¬((j:Int)<j):=Oo;go_wp2;go_ret;exact⟨c,rfl,Oo,HM⟩
def qB9 w(cap k:Nat)(h:ShI lo hi w g (n*2))(hn:n<=1048576)(hk:k<=1099511627776):
 aF 39 #[sZ g 0 n cap,ai (k:Int)] w (ai ((k+n*2:Nat):Int)) λw'=>Mk lo hi w w':=by
 change Hh _ at h;go_enter func39,ntmps39;go_wp2;go_loopw [1,5] (λu t wr=>∃j:Nat,j<=n/\t=ai j/\u=ai ((k+j*2:Nat):Int)/\Hh (Mk lo hi w wr)) (λ_ t _=>n-(intOf t).toNat);exact⟨0,nZ _,rfl,rfl,ay (Mk.refl _ _ _)⟩;obtain⟨j,hj,rfl,rfl,K⟩:=hrel;by_cases O:j<n
 .have i1:(j:Int)<n:=Oo;have I:=h.o.kp K;obtain⟨x,c2⟩:=I.cell (j*2) Oo;obtain⟨y,c3⟩:=I.cell (j*2+1) Oo;have f2:=I.L (j*2) Oo;have f3:=I.L (j*2+1) Oo;have V:Hh (∀a b:Int,Mk lo hi w (sW (sC wr g (j*2) (ai a)) (az g (j*2+1)) (ai b))):=ay λa b=>(K.o.trans (Mk.setI c2 I.lo I.hi)).trans (Mk.setI ((bC _ _ _ _ Nq).trans c3) I.lo I.hi);clear I K;go_wp2;go_roundw;exact⟨j+1,Oo,Gg,Gg,ay (V.o _ _)⟩;exact Im
 obtain rfl:j=n:=Oo;have i1:¬((j:Int)<j):=Oo;go_wp2;go_ret;first|exact⟨rfl,K.o⟩|exact K.o
structure ShPl(lo hi:Nat)(W:oX)(g0 g1 g2 g3:Nat)(bs:LL)(np nh nw:Nat):Prop where
 b:ShSS lo hi W g0 (E bs) (λj=>E (U bs j []))
 p:ShI lo hi W g1 np
 h:ShI lo hi W g2 nh
 d:ShI lo hi W g3 (nw*2)
def ShPl.kp(h:ShPl lo hi W g0 g1 g2 g3 bs np nh nw)(k:Mk lo hi W W'):ShPl lo hi W' g0 g1 g2 g3 bs np nh nw:=⟨h.b.kp k,h.p.kp k,h.h.kp k,h.d.kp k⟩
def qCA(k:Nat)c0 c1 c2 c3 x y(h:ShPl lo hi w g0 g1 g2 g3 bs np nh nw)(hb:tot bs (E bs)<=1048576)(hp:np<=1048576)(a3:nh<=1048576)(hw:nw<=1048576)(hk:k<=10000000):
 Cl 16 #[aQ #[sZ g0 0 (E bs) c0,sZ g1 0 np c1,sZ g2 0 nh c2,sZ g3 0 nw c3,ai x,ai y],ai (k:Int)] w λe w'=>∃z:Nat,e=rE (ai (z:Int))/\z<=99000000/\Mk lo hi w w':=by
 have a4:=YS _ (E bs) (nR _);have hsz:E bs<=1048576:=by unfold tot at hb;omega
 obtain⟨K,I⟩:=Ex (S w (eZ #[sZ g0 0 (E bs) c0,sZ g1 0 np c1,sZ g2 0 nh c2,sZ g3 0 nw c3,ai x,ai y] 39));have O:Bl w K:=by rw[I];exact(bJ _ _).alloc (nR _) _
 have V:Hh (Mk lo hi w K):=ay (Mk.zu O);have HS:Hh (∀W,Mk lo hi K W->ShPl lo hi W g0 g1 g2 g3 bs np nh nw):=ay λW M=>(h.kp V).kp M;have q0:eQ K (az (J w.1) 0)=Q (sZ g0 0 (E bs) c0):=by rw[I,bE _ _ _ _ rfl];rfl
 have q1:eQ K (az (J w.1) 1)=Q (sZ g1 0 np c1):=by rw[I,bE _ _ _ _ rfl];rfl
 have q2:eQ K (az (J w.1) 2)=Q (sZ g2 0 nh c2):=by rw[I,bE _ _ _ _ rfl];rfl
 have q3:eQ K (az (J w.1) 3)=Q (sZ g3 0 nw c3):=by rw[I,bE _ _ _ _ rfl];rfl
 obtain⟨L,hL⟩:=Ex (uJ (λj=>E (U bs j [])) (E bs));have K0:=ay (Zu K _ c0 k (HS K (Mk.refl _ _ _)).b hsz Oo Oo);rw[<-hL]at K0;have a8:L<=1048576:=Oo;have K1:=ay λW M=>yY W _ c1 (k+L) (HS W M).p hp Oo;have K2:=ay λW M=>yY W _ c2 (k+L+np) (HS W M).h a3 Oo;have K3:=ay λW M=>qB9 W c3 (k+L+np+nh) (HS W M).d hw Oo;clear HS h O a4 hL;generalize E bs=nb at *;go_enter func16,ntmps16;go_upto_region 1 with fail;rw[<-I];clear I;go_wp2_with fail;apply K0.o.mono;rintro e w2 ⟨rfl,m2⟩;have r1:=m2.sl _ _ _ _ _ q1;go_wp2_with fail;apply (K1.o _ m2).mono;rintro e w3 ⟨rfl,a5⟩;have m3:=m2.trans a5;have r2:=m3.sl _ _ _ _ _ q2;go_wp2_with fail;apply (K2.o _ m3).mono;rintro e w4 ⟨rfl,a6⟩;have m4:=m3.trans a6;have r3:=m4.sl _ _ _ _ _ q3;go_wp2_with fail;apply (K3.o _ m4).mono;rintro e w5 ⟨rfl,a7⟩;have m5:=m4.trans a7;go_wp2;go_ret;exact⟨k+L+np+nh+nw*2,by first|rfl|(simp;done)|(congr;omega),Oo,V.o.trans m5⟩
def qCW:∀{l:LN} {x:Nat},x∈l->x<=l.sum
 |y::l,x,h=>by
  rw[sum_cons];rcases cH.1 h with rfl|I;omega;have:=qCW I;omega
def qHA(h:E tl+xf tl<=1048576):∀t∈tl,TvS t:=λt I=>by
 have K:szB t<=xf tl:=qCW (cC.2 ⟨t,I,rfl⟩);unfold szB at K;have M:E t.x<=tot t.x (E t.x):=by unfold tot;omega
 exact⟨Oo,⟨Oo,λj=>O1 (Xt t.x j)⟩,Oo⟩
def PX.frG{p b}(h:PX ty a p v0 v1 v2 v3 x y)(I:Fr lo hi a b)(K:hi<=p):PX ty b p v0 v1 v2 v3 x y:=⟨(I.block p h.lt (Or.inr K)).trans h.i⟩
def ShI.kpA(h:ShI lo hi W g n)(k:Mk I K W W'):ShI lo hi W' g n:=
 ⟨h.lo,h.hi,bN h.lt k.fr.size,λj M=>by obtain⟨x,e⟩:=h.cell j M;exact k.num _ _ _ e,λj M=>k.froz _ _ h.lt (h.L j M)⟩
def ShPl.kpA(h:ShPl lo hi W g0 g1 g2 g3 bs np nh nw)(k:Mk I K W W'):ShPl lo hi W' g0 g1 g2 g3 bs np nh nw:=
 ⟨λj M=>by obtain⟨c,e,O⟩:=h.b j M;exact⟨c,k.sl _ _ _ _ _ e,O.kpA k⟩,h.p.kpA k,h.h.kpA k,h.d.kpA k⟩
structure Bx3(ty:TypeId)(W:oX)(p:Nat)(v0 v1 v2:oV):Prop where
 i:W.1[p]?=Q (eZ #[v0,v1,v2] ty (0,0))
section
variable {ty:TypeId} {W W':oX} {p:Nat} {v0 v1 v2:oV}
def Bx3.lt(h:Bx3 ty W p v0 v1 v2):p<J W.1:=by
 rcases dL p (J W.1) with I|I;exact I;have:=h.i;rw[dO I]at this;cases this
def Bx3.zz(h:Bx3 ty W p v0 v1 v2)(hb:Bl W W'):Bx3 ty W' p v0 v1 v2:=⟨(hb.block p h.lt).trans h.i⟩
def Bx3.c0(h:Bx3 ty W p v0 v1 v2):eQ W (az p 0)=Q v0:=by rw[fA _ _ _ _ _ _ h.i];rfl
def Bx3.c1(h:Bx3 ty W p v0 v1 v2):eQ W (az p 1)=Q v1:=by rw[fA _ _ _ _ _ _ h.i];rfl
def Bx3.c2(h:Bx3 ty W p v0 v1 v2):eQ W (az p 2)=Q v2:=by rw[fA _ _ _ _ _ _ h.i];rfl
def Bx3.L(h:Bx3 ty W p v0 v1 v2)j:W.frozen? (az p j)=false:=by unfold World.frozen?;rw[h.i];simp
def Bx3.zy(h:Bx3 ty W p v0 v1 v2):∃cur,W.1[p]?=Q (eZ cur ty (0,0)):=⟨_,h.i⟩
def Bx3.zw ty(w:oX)v0 v1 v2:Bx3 ty (S w (eZ #[v0,v1,v2] ty)) (J w.1) v0 v1 v2:=⟨dZ _ _⟩
end
def TWr.setX{p y}(h:TWr W B t)(I:∃cur,W.1[p]?=Q (eZ cur ty (0,0)))(K:3≠ty)(M:24≠ty):TWr (sW W (az p off) y) B t:=
 ⟨qI h.o0 I K,⟨qI h.rq.z I M,h.rq.C,λi hi=>qI (h.rq.l i hi) I K,h.rq.ap⟩,qI h.o2 I K,h.a02,h.a0,h.a2⟩
def TBs.setX{p y tl}(h:TBs W B v tl)(I:∃cur,W.1[p]?=Q (eZ cur ty (0,0)))(K:3≠ty)(M:24≠ty)(O:58≠ty):TBs (sW W (az p off) y) B v tl:=
 ⟨qI h.z I O,λt V=>TWr.setX (h.l t V) I K M,h.ap⟩
def qC0{x y t}(K:k=J X.1)(hb:Below (J (S X (eZ #[x,y,z] t)).1) (S X (eZ #[x,y,z] t)) W):∀j u,[x,y,z][j]?=Q u->W.cell? (((az k 0):Addr).add j)=Q u:=λj u M=>by
 subst K;have I:=uT X x y z t j u M;exact(hb.cell (bL _ _ I)).trans I
structure Bx1(ty:TypeId)(W:oX)(p:Nat)(v:oV):Prop where
 i:W.1[p]?=Q (eZ #[v] ty (0,0))
section
variable {ty:TypeId} {W W':oX} {p:Nat} {v:oV}
def Bx1.lt(h:Bx1 ty W p v):p<J W.1:=by
 rcases dL p (J W.1) with I|I;exact I;have:=h.i;rw[dO I]at this;cases this
def Bx1.zz(h:Bx1 ty W p v)(hb:Bl W W'):Bx1 ty W' p v:=⟨(hb.block p h.lt).trans h.i⟩
def Bx1.zw ty(w:oX)v(I:k=J w.1):Bx1 ty (S w (eZ #[v] ty)) k v:=⟨by rw[I];exact dZ _ _⟩
def Bx1.news(h:Bx1 ty W p v):∀j u,[v][j]?=Q u->W.cell? (((az p 0):Addr).add j)=Q u:=λj u I=>by
 match j,I with
 |0,I=>
  rw[show((az p 0):Addr).add 0=(az p 0)by unfold Addr.add;simp,fA _ _ _ _ _ _ h.i];simpa using I
 |j+1,I=>simp at I
def Bx1.gr(h:Bx1 ty W p v)(ho:oW W B e s u n xs)(I:e≠ty)(K:W.grownBy Y u.ownBlock):Bx1 ty Y p v:=⟨(K.block p h.lt (own_ne ho ⟨_,h.i⟩ I)).trans h.i⟩
def Bx3.gr(h:Bx3 ty W p v0 v1 v2)(ho:oW W B e s u n xs)(I:e≠ty)(K:W.grownBy Y u.ownBlock):Bx3 ty Y p v0 v1 v2:=⟨(K.block p h.lt (own_ne ho ⟨_,h.i⟩ I)).trans h.i⟩
def PX.gr(h:PX ty W p v0 v1 v2 v3 x y)(ho:oW W B e s u n xs)(I:e≠ty)(K:W.grownBy Y u.ownBlock):PX ty Y p v0 v1 v2 v3 x y:=⟨(K.block p h.lt (own_ne ho ⟨_,h.i⟩ I)).trans h.i⟩
end
structure T14(w0 wb:oX)(vb:oV)(rl:List TbR)(t:TbR)(p r:Nat)(v0 v1 v2 v3:oV)(x y:Int)(W:oX)(v:oV):Prop where
 tb:TBs W (J w0.1) v (rl++[t])
 px:PX 39 W p v0 v1 v2 v3 x y
 bx:Bx3 97 W r sn sn sn
 O:Bl w0 W
 fr:∀k,k<J wb.1->vb.ownBlock≠Q k->W.1[k]?=wb.1[k]?
def qBH{K o p}(hT:TBs M (J w0.1) vb rl)(hw:Bl w0 M)(V:Bl wb M)(hp:PX 39 M p v0 v1 v2 v3 x y)(hx:Bx3 97 M r sn sn sn)(hY:Bl M Y)(ht:TWr Y M.1.size t)(hg:(S Y o).grownBy K vb.ownBlock)(a3:K.ownsRow (J w0.1) 58 3 O (E rl+1) (rl.flatMap tcs++[t.v0,t.v1,t.v2])):T14 w0 wb vb rl t p r v0 v1 v2 v3 x y K O:=by
 have hO:=(qB hT.z hY).alloc o;have I:=x8 hY o;refine⟨hT.M hw.size Y t o K O hY ht hg a3,(hp.zz I).gr hO Dd hg,(hx.zz I).gr hO Dd hg,(bt hw I).grown hg (bM hw.size I.size) λk hk=>(hO.lt k hk).1,λk hk a4=>?_⟩;have h1:=V.size;have h2:=I.size;rw[hg.block k Oo (λe=>a4 e.symm),I.block k Oo,V.block k hk]
structure TreE(w0 wb:oX)(vb:oV)(rl:List TbR)(tl:List TbV)(ps hs:LI)(W:oX)(x0 x1 x2:oV):Prop where
 tb:∃rl',TBs W (J w0.1) x0 rl'/\rl'.map tvB=rl.map tvB++[ZA tl]
 pa:oW W (J w0.1) 3 1 x1 (E ps+1) ((orT (E rl) ps++[(E rl:Int)]).map ai)
 ho:oW W (J w0.1) 3 1 x2 (E hs) ((orT (E rl) hs).map ai)
 O:Bl w0 W
 fr:∀k,k<J wb.1->vb.ownBlock≠Q k->W.1[k]?=wb.1[k]?
def qH8{K p}(h:T14 w0 wb vb rl t p r v0 v1 v2 v3 x y K V)(ht:ZA tl=tvB t)(hq:Bl K M)(hP:M.ownsRow K.1.size 3 1 x1 (E ps+1) ((orT (E rl) ps).map ai++[ai (E rl:Int)]))(hH:M.ownsRow K.1.size 3 1 x2 (E hs) ((orT (E rl) hs).map ai))(hr:J w0.1<=r)(a4:J wb.1<=r/\J wb.1<=p):
 TreE w0 wb vb rl tl ps hs (sW (sW (sW M (az r 0) y0) (az r 1) y1) (az r 2) y2) V x1 x2:=by
 have hX:=(h.bx.zz hq).zy;have hX1:=qU (o:=0) (v:=y0) hX;have O:=qU (o:=1) (v:=y1) hX1;have hs:=h.O.size;refine⟨⟨rl++[t],(((h.tb.zz hq).setX hX Dd Dd Dd).setX hX1 Dd Dd Dd).setX O Dd Dd Dd,by rw[mA,ht];rfl⟩,?_,?_,(((bt h.O hq).setCell hr _).setCell hr _).setCell hr _,λk hk a3=>?_⟩;rw[mA];exact qI (qI (qI (qE hP hs) hX Dd) hX1 Dd) O Dd;exact qI (qI (qI (qE hH hs) hX Dd) hX1 Dd) O Dd;have I:k≠r:=Oo;have a5:=h.px.lt;rw[bD _ _ _ _ I,bD _ _ _ _ I,bD _ _ _ _ I,hq.block k Oo];exact h.fr k hk a3
def qBI:∀{rl:List TbR} {q:Nat} {t:TbR},q<E rl->(((rl.flatMap tcs).set (q*3) t.v0).set (q*3+1) t.v1).set (q*3+2) t.v2=(rl.set q t).flatMap tcs
 |r::rl,0,t,_=>by
  show((([r.v0,r.v1,r.v2]++rl.flatMap tcs).set 0 t.v0).set 1 t.v1).set 2 t.v2=[t.v0,t.v1,t.v2]++rl.flatMap tcs;rfl
 |r::rl,q+1,t,h=>by
  have I:=qBI (rl:=rl) (q:=q) (t:=t) (by simpa using h);show((([r.v0,r.v1,r.v2]++rl.flatMap tcs).set ((q+1)*3) t.v0).set ((q+1)*3+1) t.v1).set ((q+1)*3+2) t.v2=[r.v0,r.v1,r.v2]++(rl.set q t).flatMap tcs;rw[<-I,show(q+1)*3=q*3+1+1+1 by omega];rfl
def TBs.put(h:TBs W0 B (sZ g 0 n c) rl)(hb:Bl W0 W)(hB:B<=J W0.1)(ht:TWr W (J W0.1) t)(hq:q<E rl):
 TBs (sW (sW (sW W (az g (q*3)) t.v0) (az g (q*3+1)) t.v1) (az g (q*3+2)) t.v2) B (sZ g 0 n c) (rl.set q t):=by
 obtain⟨a,cap,e,-⟩:=qEC _ (λ_=>rfl) QP h.z;have hn:n=E rl:=by simp only[vI]at e;exact e.2.1
 subst hn;have ho:=qB h.z hb;have O:=qK ho (g:=g) rfl;have K:=qU (o:=q*3) (v:=t.v0) O;have V:=qU (o:=q*3+1) (v:=t.v1) K;have hk:∀{s:TbR} {B':Nat},TWr W B' s->TWr (sW (sW (sC W g (q*3) t.v0) (az g (q*3+1)) t.v1) (az g (q*3+2)) t.v2) B' s:=λhs=>
  TWr.setX (TWr.setX (TWr.setX hs O Dd Dd) K Dd Dd) V Dd Dd
 refine⟨?_,λs hs=>?_,?_⟩;rw[length_set,<-qBI hq];exact((((ho.stored _ _).1).stored _ _).1.stored _ _).1
 .rcases mem_or_eq_of_mem_set hs with hs|rfl;exact hk (TW.zz (h.l s hs) hb);exact hk (TW.zx ht hB)
 have old:∀s∈rl,∀x∈bls s,∀y∈bls t,ApW x y/\ApW y x:=λs hs x M y I=>by
  refine⟨λk h1 h2=>?_,λk h1 h2=>?_⟩;have h3:=((h.l s hs).lt M h1).2;have h4:=(ht.lt I h2).1;omega;have h3:=((h.l s hs).lt M h2).2;have h4:=(ht.lt I h1).1;omega
 refine pairwise_iff_getElem.2 λi j hi hj a3 x M y I=>?_;rw[length_set]at hi hj;rw[getElem_set]at M I;split at M
 .split at I;omega;exact(old _ (gM hj) y I x M).2
 split at I;exact(old _ (gM hi) x M y I).1;exact pairwise_iff_getElem.1 h.ap i j hi hj a3 x M y I
structure RdW(w0:oX)(p:Nat)(x0 x1 x2:oV)(prs:LI)(T:List TbV)(W:oX):Prop where
 tb:∃rl,TBs W (J w0.1) x0 rl/\rl.map tvB=T
 bx:Bx3 97 W p x0 x1 x2
 pa:oW W (J w0.1) 3 1 x1 (E prs) (prs.map ai)
 O:Bl w0 W
def RdW.zz{p}(h:RdW w0 p x0 x1 x2 prs T W)(hb:Bl W W'):RdW w0 p x0 x1 x2 prs T W':=by
 obtain⟨⟨rl,I,K⟩,M,O,V⟩:=h;exact⟨⟨rl,I.zz hb,K⟩,M.zz hb,qB O hb,bt V hb⟩
def qGY:(rl.set q t).map tvB=(rl.map tvB).set q (tvB t):=map_set
def RdW.cells{p}(h:RdW w0 p (sZ g 0 n c) x1 x2 prs T W)(K:j<E T):
 ∃(a0:OA) (m0 c0:Nat) (a1:OA) (m1 c1:Nat) (a2:OA) (m2 c2:Nat),(∀W',Bl W W'->eQ W' (az g (j*3))=Q (Z a0 m0 c0)/\eQ W' (az g (j*3+1))=Q (Z a1 m1 c1)/\eQ W' (az g (j*3+2))=Q (Z a2 m2 c2)/\IT W' (Z a0 m0 c0) (Z a1 m1 c1) (Z a2 m2 c2) (U T j qA).e (U T j qA).x (U T j qA).k):=by
 obtain⟨⟨rl,h1,rfl⟩,-,-,-⟩:=h;rw[lM]at K;obtain⟨a,cap,e,M⟩:=qEC tcs (λ_=>rfl) QP h1.z;have V:TWr W (J w0.1) (U rl j QP):=h1.l _ (qz K);have eg:U (rl.map tvB) j qA=tvB (U rl j QP):=by
  rw[gD,gD,bK,gE K];rfl
 rw[eg];rcases M with h0|⟨g',ea,-,M⟩;omega;simp only[vI]at e;obtain⟨O,-,-⟩:=e;rw[ea]at O;simp only[oI,aI,iB]at O;subst O;obtain⟨q0,z0,e0⟩:=qG V.o0;obtain⟨q1,z1,O⟩:=qG V.rq.z;obtain⟨q2,z2,e2⟩:=qG V.o2;refine⟨q0,E (U rl j QP).e,z0,q1,E (U rl j QP).x,z1,q2,E (U rl j QP).k,z2,λW' hW=>?_⟩;rw[<-e0,<-O,<-e2];have I:=TW.zz V hW;exact⟨qF hW (M j 0 K Oo),qF hW (M j 1 K Oo),qF hW (M j 2 K Oo),qN I.o0,I.rq.rs.iss (bJ _ _),qN I.o2⟩
def RdW.put{p}(h:RdW w0 p (sZ g 0 n c) x1 x2 prs T W0)(hb:Bl W0 W)(ht:TWr W (J W0.1) t)(hq:q<E T):
 RdW w0 p (sZ g 0 n c) x1 x2 prs (T.set q (tvB t)) (sW (sW (sW W (az g (q*3)) t.v0) (az g (q*3+1)) t.v1) (az g (q*3+2)) t.v2):=by
 obtain⟨⟨rl,h1,rfl⟩,h2,h3,h4⟩:=h;rw[lM]at hq;have ho:=qB h1.z hb;have K:=qK ho (g:=g) rfl;have I:=qU (o:=q*3) (v:=t.v0) K;have V:=qU (o:=q*3+1) (v:=t.v1) I;have M:=(ho.lt g rfl).1;have O:p≠g:=λe=>by
  obtain⟨cur,a3⟩:=K;have:=(h2.zz hb).i;rw[e,a3]at this;simp only[oI,iL]at this;exact absurd this.2.1 Dd
 refine⟨⟨rl.set q t,h1.put hb h4.size ht hq,qGY⟩,⟨?_⟩,qI (qI (qI (qB h3 hb) K Dd) I Dd) V Dd,(((bt h4 hb).setCell M _).setCell M _).setCell M _⟩;rw[bD _ _ _ _ O,bD _ _ _ _ O,bD _ _ _ _ O];exact(h2.zz hb).i
open Go.Shelf
attribute [local go_sem] Oper.semAt_some
def UR{a:OA}n:
 aF 93 #[Z a n c] w (.func (.func 131) #[] #[pZ (J w.1) 0]) λw'=>w'=S w (eZ #[Z a n c] 24):=by
 go_enter func93,ntmps93;go_wp2;go_ret;exact⟨rfl,rfl⟩
structure KpG(B g:Nat)(X Y:oX):Prop where
 size:J X.1<=J Y.1
 block:∀k,k<B->k≠g->Y.1[k]?=X.1[k]?
def KpG.trans(h:KpG B g X Y)(k:KpG B g Y iZ):KpG B g X iZ:=⟨bM h.size k.size,λi I K=>(k.block i I K).trans (h.block i I K)⟩
def KpG.of(h:Below B X Y):KpG B g X Y:=⟨h.size,λk I _=>h.block k I⟩
def rvL(n j:Nat):LN:=((range n).drop j).reverse
def qH9 n:rvL n n=[]:=by unfold rvL;rw[drop_eq_nil_of_le Ss];rfl
def qC1:E (rvL n j)=n-j:=by unfold rvL;rw[length_reverse,dP,length_range]
def qGZ(h:j<n):rvL n j=rvL n (j+1)++[j]:=by
 unfold rvL;rw[drop_eq_getElem_cons (by simpa using h),reverse_cons,getElem_range]
def VT w V g{M}c(ls:LI)(hb:w.1[V]?=Q (eZ #[sZ M 0 (E ls) c] 24 (0,0)))(b1:V≠g)(b7:M<J w.1)(b8:M≠g)(h:∀j,j<E ls->eQ w (az M j)=Q (ai (U ls j 0)))(hl:E ls<=1000):
 Gives Tryz.prog 131 #[pZ V 0] (λx:Nat×Int=>#[ai (x.1:Int),ai x.2]) (λ_=>KpG (J w.1) g) (λ_ _ _=>True) (λpre x b _ _=>b=(x,U ls x 0)/\x+E pre+1=E ls) (rvL (E ls) 0) w:=by
 intro l iJ Jx W a3 c8 c9 hJ d0 hY h0;show Calls _ _ #[.func (.yield l) #[] #[],pZ V 0] W _;have HS:Hh (∀W',KpG (J w.1) g w W'->eQ W' (az V 0)=Q (sZ M 0 (E ls) c)):=ay λW' O=>by
  rw[fA _ _ _ _ _ _ ((O.block _ (qZ hb) b1).trans hb)];rfl
 have HC:Hh (∀W',KpG (J w.1) g w W'->∀j,j<E ls->eQ W' (az M j)=Q (ai (U ls j 0))):=ay λW' O j hj=>
  (bF (O.block M b7 b8)).trans (h j hj)
 have HT:Hh (∀j,j<E ls->rvL (E ls) j=rvL (E ls) (j+1)++[j]):=ay λj hj=>qGZ hj;have a4:Hh (∀j,j<=E ls->E (rvL (E ls) j)=E ls-j):=ay λj _=>qC1;have I:=ay hY;have HJ:=ay hJ;have a5:=ay (KpG.of (g:=g) a3);have a6:Hh (iJ (rvL (E ls) (E ls)) W):=ay (by rw[qH9];exact h0);clear hb h hY hJ h0 a3;obtain⟨n,hn⟩:=Ex (E ls);rw[<-hn]at hl HC HT HS I a4 a6 |-;clear hn;have c0:=HS W a5;go_enter func131,ntmps131;go_wp2_with fail;clear c0;go_loopw [3] (λt wr=>∃(j:Nat) (z:Int),j<=n/\t=ai z/\z+1=(j:Int)/\Hh (∃X,iJ (rvL n j) X/\KT (J W.1) X wr/\KpG (J w.1) g w wr)) (λt _=>(intOf t+1).toNat);exact⟨n,_,nR _,rfl,Oo,ay ⟨W,a6,KT.refl _ _,a5⟩⟩;obtain⟨j,z,b9,rfl,hz,K⟩:=hrel;cases j with
 |zero=>
  obtain rfl:z=-1:=Oo;have HF:=ay (by
   obtain⟨X,h1,h2,h3⟩:=K.o;exact HJ _ _ _ h1 h2)
  clear K HC I hz;go_wp2;go_end0
  exact⟨⟨_,rfl⟩,Or.inl HF⟩
 |succ k=>
  obtain rfl:z=(k:Int):=Oo;clear hz;have i1:(0:Int)<=k:=Oo;have i2:(k:Int)<n:=Oo;obtain⟨X,h1,h2,h3⟩:=K.o;have c1:=HC _ h3 k Oo;have c2:=HS _ h3;obtain⟨fn,tmps,assign,body,hy,hR⟩:=I.o (rvL n (k+1)) k (k,U ls k 0) X wr h1 h2 ⟨rfl,by rw[a4.o (k+1) b9];omega⟩;have HN:Hh (∀iZ,iJ (rvL n (k+1)++[k]) iZ->KpG (J w.1) g wr iZ->∃X,iJ (rvL n k) X/\KT (J W.1) X iZ/\KpG (J w.1) g w iZ):=ay λiZ g1 g2=>⟨iZ,by rw[HT.o k Oo];exact g1,KT.refl _ _,h3.trans g2⟩;have HR:=ay hR;clear hR h1 h2 h3 K HC I HS;generalize U ls k 0=x at *;refine(oF (n:=0)).1 ?_;gi_wp2
  refine⟨rfl,?_⟩;apply HR.o.mono;rintro e w9 (⟨rfl,a7,a8⟩|⟨rfl,a9,-⟩)
  .have c7:=ay (HN.o w9 a7 a8);clear a7 a8 hy HR HN;gi_wp2
   go_wp2;go_roundw;exact⟨k,_,Oo,rfl,Oo,c7⟩;simp[intOf]
  clear hy HR HN;gi_wp2
  go_wp2_with fail;refine bodyPost_ret (P:=Tryz.prog) (fn:=f131) (R:=λe W'=>(∃v,e=rE v)/\(iJ (rvL n 0) W'\/Jx W')) (nK rfl _ _ _) rfl ?_;exact⟨⟨_,rfl⟩,Or.inr a9⟩
def whJ(k:Int)(tl:List TbV)(bs:LL)(ps hs:LI)(ws:LP)(x:Int×Int):Bool:=zX k (tl.map TbV.e) bs ps hs ws x&&oD (0<=zK tl (upR k.toNat))
end Go.Proofs.YtfpjpngjikdaoaaGreat
namespace Go.Proofs.YtfpjpngjikdaoaaGreat
open Go.Proofs.Tryz Go.RowKit
variable {ls:LL}{tl:List TbV}{B k g c I:Nat}{v v0 vt v1 v2 v3:oV}{W w3 W':oX}{cs:List (oV×oV)}
def ITsC(W:oX)(v:oV)(tl:List TbV):Prop:=∃a cap,v=Z a (E tl) cap/\(E tl=0\/∃b o,a=Q (az b o)/\∀j,j<E tl->∃v0 v1 v2,eQ W (az b (o+j*3))=Q v0/\eQ W (az b (o+j*3+1))=Q v1/\eQ W (az b (o+j*3+2))=Q v2/\IT W v0 v1 v2 (U tl j qA).e (U tl j qA).x (U tl j qA).k/\ISSc W v1 (U tl j qA).x)
def ITsC.its(h:ITsC W v tl):ITs W v tl:=by
 have⟨a,cap,e,h⟩:=h;refine⟨a,cap,e,?_⟩;rcases h with h|⟨b,o,I,h⟩;exact .inl h;refine .inr ⟨b,o,I,λj K=>?_⟩;obtain⟨v0,v1,v2,c0,c1,c2,M,-⟩:=h j K;exact⟨v0,v1,v2,c0,c1,c2,M⟩
def wgI(t:TbV)(p:LI):Int:=U t.k (t.x.idxOf (qM t.e p)) 0
def wgL(tl:List TbV)(p:LI):LI:=tl.map λt=>wgI t p
def AnS(tl:List TbV)(W:oX)(v:oV)(ls:LL):Prop:=∃a cap,v=Z a (E ls) cap/\(E ls=0\/∃b o,a=Q (az b o)/\∀j,j<E ls->∃v0 aw nw cw,eQ W (az b (o+j*2))=Q v0/\eQ W (az b (o+j*2+1))=Q (Z aw nw cw)/\IS W v0 (U ls j [])/\IS W (Z aw nw cw) (wgL tl (U ls j [])))
structure AnM(tl:List TbV)(w3 W:oX)(v:oV)(ls:LL)(cs:List (oV×oV)):Prop where
 C:E cs=E ls
 z:oW W (J w3.1) 82 2 v (E ls) (cs.flatMap λc=>[c.1,c.2])
 el:∀i,i<E ls->IS w3 (U cs i (tM,tM)).1 (U ls i [])/\∃a c B,(U cs i (tM,tM)).2=Z a (E tl) c/\oW W B 3 1 (Z a (E tl) c) (E tl) ((wgL tl (U ls i [])).map ai)
 O:Bl w3 W
def qBQ:∀{cs:List (oV×oV)} {i:Nat},i<E cs->(cs.flatMap λc=>[c.1,c.2])[i*2]?=Q (U cs i (tM,tM)).1/\(cs.flatMap λc=>[c.1,c.2])[i*2+1]?=Q (U cs i (tM,tM)).2
 |c::cs,0,_=>⟨rfl,rfl⟩
 |c::cs,i+1,h=>by
  have⟨I,K⟩:=qBQ (cs:=cs) (i:=i) (by simpa using h);rw[show(i+1)*2=i*2+1+1 by omega];exact⟨I,K⟩
def AnM.push{a:OA}{r}(h:AnM tl w3 W v ls cs)(K:∀{B v n xs},oW W B 3 1 v n xs->oW W' B 3 1 v n xs)(M:oW W' B 3 1 (Z a (E tl) k) (E tl) ((wgL tl r).map ai))(O:IS w3 v0 r)(I:oW W' (J w3.1) 82 2 (sZ g 0 (E ls+1) c) (E ls+1) ((cs.flatMap λc=>[c.1,c.2])++[v0,Z a (E tl) k]))(hb:Bl w3 W'):AnM tl w3 W' (sZ g 0 (E ls+1) c) (ls++[r]) (cs++[(v0,Z a (E tl) k)]):=by
 have hl:=h.C;refine⟨by simp[hl],by rw[lA,lS,dM];exact I,λi hi=>?_,hb⟩;rw[lA,lS]at hi;by_cases e:i<E ls;rw[gD,aL Oo,<-gD,gD (l:=ls++[r]),aL e,<-gD];obtain⟨V,a',c',B',h2,h3⟩:=h.el i e;exact⟨V,a',c',B',h2,K h3⟩;obtain rfl:i=E ls:=Oo;rw[gD,bQ Oo,gD (l:=ls++[r]),bQ (nR _),hl,iV];exact⟨O,a,k,B,rfl,M⟩
def AnM.is(h:AnM tl w3 W v ls cs):AnS tl W v ls:=by
 rcases h.z.2 with ⟨rfl,I⟩|⟨g,cap,cur,rfl,hb',K,I,-,-,M⟩;exact⟨none,0,by rw[I],.inl I⟩;refine⟨_,cap,rfl,.inr ⟨g,0,rfl,λj V=>?_⟩⟩;have hl:=h.C;have⟨h1,a,c,B,h2,O⟩:=h.el j V;have⟨f1,f2⟩:=qBQ (cs:=cs) (i:=j) Oo;rw[cU];refine⟨(U cs j _).1,a,E tl,c,?_,?_,h1.zz h.O,qN (by unfold wgL at O |-;rw[lM];exact O)⟩;rw[eI K,<-f1,<-M,cL Oo,dY];rw[eI K,<-h2,<-f2,<-M,cL Oo,dY]
def qG4{rows}{q:LI}(hs:SL rows)(hq:q∈rows)(hl:∀r∈rows,E r=E q)(h:Sk rows q k):k=rows.idxOf q/\k<E rows:=by
 have I:=idxOf_lt_length_iff.2 hq;have e:=getElem_idxOf I;generalize rows.idxOf q=j at *;rcases oE j k with M|rfl|M;have K:=h.lo j M;rw[gdR I,e,tL,zj]at K;omega;exact⟨rfl,I⟩;have K:=h.hi k eA Oo;have O:=pairwise_iff_getElem.1 hs k j Oo I M;rw[gdR Oo,take_of_length_le (Nat.le_of_eq (hl _ (gM _)))]at K;rw[e]at O;exact absurd O K
def qGe(K:okJ tl (upR I)){p:LI}(M:p∈qO tl (upR I)){t}(V:t∈tl):qM t.e p∈t.x/\E p=I/\∀y∈t.e,0<=y/\y<I:=by
 have hF:=jz K (uO I);have hm:p∈lvJ tl (upR I) (E (upR I)):=by
  rw[(vY K).1]at M;split at M;exact M;cases M
 have⟨h1,h2⟩:=(qC2 hF p).1 hm;rw[zO]at h1;have hv:=λy O=>uw.1 ((hF.e t V).2 y O);refine⟨?_,h1,hv⟩;have e:qM t.e p=qQ (upR I) t.e p:=cV λy O=>by
  have h3:=hv y O;have h4:=jL (upR I) p y.toNat (uO _) (by rw[zO];omega);rw[qBO Oo,show((y.toNat:Nat):Int)=y by omega]at h4;exact h4.symm
 rw[e];exact h2 t V
open Meet
def WjR(b:Bool)(w w':oX)(v:oV)(rows:LL):Prop:=(b->∃us,RQ w' (J w.1) v us rows)/\Bl w w'
def YH w k x y{bs ps hs ws}(h:ITs w vt tl)(hl:E tl<=1048576)(hs':∀t∈tl,TvS t)(hp:IPl w v0 v1 v2 v3 bs ps hs ws)(c7:qS bs)(c8:E ps<=1099511627776):
 Cl 51 #[ai k,vt,aQ #[v0,v1,v2,v3,ai x,ai y]] w λe w'=>∃a n c,e=rE (.tuple #[Z a n c,oB (whJ k tl bs ps hs ws (x,y))])/\WjR (whJ k tl bs ps hs ws (x,y)) w w' (Z a n c) (qO tl (upR k.toNat)):=by
 have d9:Tryz.prog.follows .mixedOrders:=Kl;have a8:∀W:oX,Bl W W.drew:=λW=>(bJ _ _).drew;have KE:Hh (∀W,Bl w W->Cl 64 #[vt] W λe w'=>∃v,e=rE v/\ISS w' v (tl.map TbV.e)/\Bl W w'):=ay λW hW=>jb W (h.zz hW) hl;have KP:Hh (∀W v,Bl w W->ISS W v (tl.map TbV.e)->Cl 63 #[ai k,v,aQ #[v0,v1,v2,v3,ai x,ai y]] W λe w'=>e=rE (oB (zX k (tl.map TbV.e) bs ps hs ws (x,y)))/\Bl W w'):=ay λW v hW hv=>Zw W v k x y hv (Vk hl hs') (hp.zz hW).b c7 (hp.zz hW).p c8 (hp.zz hW).h (hp.zz hW).d;have HK:Hh (zX k (tl.map TbV.e) bs ps hs ws (x,y)->0<=k/\k<=6):=λhr=>by
  unfold zX at hr;rw[bV,bV,bV,bV,bV]at hr;have:=xA hr.1.1.1.1.1;exact⟨this.1,this.2.1⟩
 have KV:Hh (∀W,0<=k->k<=6->Cl 66 #[ai k] W λe w'=>∃a c,e=rE (Z a k.toNat c)/\IS w' (Z a k.toNat c) (upR k.toNat)/\Bl W w'):=λW h1 h2=>by
  have:=uN W k.toNat Oo;rw[show((k.toNat:Nat):Int)=k by omega]at this;apply this.mono;rintro e w' ⟨v,rfl,ho,hb⟩;obtain⟨a,c,e0⟩:=qG ho;rw[zO]at e0;subst e0;exact⟨a,c,rfl,qN ho,hb⟩
 have KJ:Hh (∀W vo,Bl w W->k<=6->IS W vo (upR k.toNat)->Cl 65 #[vt,vo] W λe w'=>∃a n c,e=rE (.tuple #[Z a n c,ai (zK tl (upR k.toNat))])/\(∃us,RQ w' (J W.1) (Z a n c) us (qO tl (upR k.toNat)))/\Bl W w'):=λW vo hW h6 ho=>by
  apply (Qw W _ _ (h.zz hW) ho hl (by rw[zO];omega) hs').mono;rintro e w' ⟨v,us,rfl,hQ,hb⟩;obtain⟨a,c,e0⟩:=hQ.sl;subst e0;exact⟨_,_,_,rfl,⟨us,hQ⟩,hb⟩
 have HW:Hh (whJ k tl bs ps hs ws (x,y)=(zX k (tl.map TbV.e) bs ps hs ws (x,y)&&oD (0<=zK tl (upR k.toNat)))):=rfl;obtain⟨a0,k0,rfl,-⟩:=hp.b;obtain⟨a1,k1,rfl,-⟩:=hp.p;obtain⟨a2,k2,rfl,-⟩:=hp.h;obtain⟨a3,k3,rfl,-⟩:=hp.d;clear hp c7 hs' c8;obtain⟨e1,ct,rfl,-⟩:=h;generalize zX k (tl.map TbV.e) bs ps hs ws (x,y)=PL,whJ k tl bs ps hs ws (x,y)=WH,zK tl (upR k.toNat)=VJ,qO tl (upR k.toNat)=RJ,E tl=n,E bs=nb,E ps=np,E hs=nh at *;generalize E ws=nw at *;obtain⟨V,O⟩:=Ex (S w (eZ #[Z a0 nb k0,Z a1 np k1,Z a2 nh k2,Z a3 nw k3,ai x,ai y] 39));have c9:Hh (PX 39 V (J w.1) (Z a0 nb k0) (Z a1 np k1) (Z a2 nh k2) (Z a3 nw k3) x y):=(by rw[O];exact PX.zw _ _ _ _ _ _ _ _);have I:Hh (Bl w V):=(by rw[O];exact(bJ _ _).alloc (nR _) _);have a9:Hh (∀W,Bl V W->eQ W (az (J w.1) 0)=Q (Z a0 nb k0)/\aC W (J w.1) 1 (Z a1 np k1)/\aC W (J w.1) 2 (Z a2 nh k2)/\aC W (J w.1) 3 (Z a3 nw k3)/\aC W (J w.1) 4 (ai x)/\aC W (J w.1) 5 (ai y)):=λW hW=>(c9.o.zz hW).six;obtain⟨s0,s1,s2,s3,s4,s5⟩:=a9 _ (a8 _);have b7:=ay (KE _ (bt I (a8 _)));clear KE c9;cases PL with
 |false=>
  rw[eX]at HW;go_enter func51,ntmps51;go_upto_region 1 with fail;rw[<-O];clear O;go_region_law (first
   |(go_simp;go_at_call 64;apply b7.o.mono;rintro e w3 ⟨v3,rfl,b8,a4⟩;have K:Bl V w3:=bt (a8 _) a4;have⟨t0,t1,t2,t3,t4,t5⟩:=a9 _ K)
   |(go_simp;go_at_call 63;apply (KP.o _ _ (bt I.o K) b8).mn;intro w4 a7;have M:Bl V w4:=bt K a7)
   |fail)
  all_goals go_wp2_with fail
  all_goals go_ret2
  all_goals rw[HW.o]
  all_goals first|exact⟨_,_,_,rfl,(λh=>by cases h),bt I M⟩|exact⟨⟨_,_,_,rfl⟩,⟨(λh=>by cases h),bt I.o M⟩⟩|exact⟨_,_,_,rfl,⟨(λh=>by cases h),bt I.o M⟩⟩|exact⟨_,_,⟨_,rfl⟩,⟨(λh=>by cases h),bt I.o M⟩⟩|exact⟨_,⟨_,_,rfl⟩,(λh=>by cases h),bt I.o M⟩
 |true=>
  rw[dG]at HW;have⟨d8,d0⟩:=HK rfl;go_enter func51,ntmps51;go_upto_region 1 with fail;rw[<-O];clear O;go_cut [15] from 10 to 14 (λv wx=>v=oB nF/\Hh (Bl V wx))
  case first=>
   go_region_law (first
    |(go_simp;go_at_call 64;apply b7.o.mono;rintro e w3 ⟨v3,rfl,b8,a4⟩;have K:Bl V w3:=bt (a8 _) a4;have⟨t0,t1,t2,t3,t4,t5⟩:=a9 _ K)
    |(go_simp;go_at_call 63;apply (KP.o _ _ (bt I.o K) b8).mn;intro w4 a7;have M:Bl V w4:=bt K a7)
    |fail)
   all_goals(go_wp2;go_meet)
   all_goals exact⟨rfl,ay M⟩
  case rest=>
  obtain⟨rfl,d1⟩:=hcut;generalize wc=w4 at *;have b9:=ay (bt I d1);have d2:=ay (KV w4 d8 d0);clear b7 KP d1 s0 s1 s2 s3 s4 s5 a9 KV HK;go_upto_region 4 with (first|go_at_call 66;apply d2.o.mono;rintro e w5 ⟨a5,c5,rfl,d3,b1⟩|go_at_call 65;apply (KJ.o _ _ (bt b9.o b1) d0 d3).mono;rintro e w6 ⟨a6,n6,c6,rfl,d4,d5⟩);have d6:=ay (bt (bt b9 b1) d5);have d7:Hh (∃us,RQ w6 (J w.1) (Z a6 n6 c6) us RJ):=(by obtain⟨us,hq⟩:=d4;exact⟨us,hq.zx (bt b9 b1).size⟩);clear b1 d5 d3 d4 KJ d2;by_cases hv:0<=VJ
  .rw[fD hv]at HW;go_wp2;go_ret2;rw[HW.o];exact⟨_,_,_,rfl,λ_=>d7,d6⟩
  rw[fC hv]at HW;go_wp2;go_ret2;rw[HW.o];exact⟨_,_,_,rfl,λ_=>d7,d6⟩
