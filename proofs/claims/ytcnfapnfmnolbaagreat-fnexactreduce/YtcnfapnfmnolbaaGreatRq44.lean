import Derived.Test.YtcnfapnfmnolbaaGreatRq43
set_option maxHeartbeats 40000000
set_option maxRecDepth 1000000
namespace Go.Proofs.YtcnfapnfmnolbaaGreat
open Go.RowKit Meet
variable {prs:LI}{bs:LL}{rl:List TbR}{T tl:List TbV}{B I K c g g0 g1 g2 g3 hi j lo n nh np nw q:Nat}{t:TbR}{x1 x2:Value}{W W' W0 X Y a w0:World}
theorem Z5(W:World)(B:Nat)(h:B<=W.1.size):TBs (W.alloc (.cells #[] 61)) B (.slice (some (az W.1.size 0)) 0 0) []:=⟨oM W #[] 0 h Dd rfl,λt I=>by simp at I,List.Pairwise.nil⟩
theorem qBX(w:World)(vt v0 v1 v2 v3:Value)(k x y:Int)(tl:List TbV)(bs:LL)(ps hs:LI)(ws:List (Int×Int))(h:ITs w vt tl)(hl:tl.length<=1048576)(e3:∀t∈tl,TvS t)(hp:IPl w v0 v1 v2 v3 bs ps hs ws)(h6:qT bs)(h7:ps.length<=1099511627776):
 Cl 30 #[ai k,vt,.agg #[v0,v1,v2,v3,ai x,ai y]] w λe w'=>∃v rl,e=.returned (.tuple #[v,ai (zW k tl bs ps hs ws (x,y))])/\TBs w' w.1.size v rl/\rl.map tvB=xe k tl bs ps hs ws (x,y)/\Bl w w':=by
 obtain⟨iT,hj,j2,j3,j4⟩:=info_parts Tryz.infoTb;have k9:Tryz.prog.follows .mixedOrders=true:=Kl;have b7:∀W:World,Bl W W.drew:=λW=>(bJ _ _).drew;have KA:Hh (∀W,Bl w W->Cl 53 #[vt] W λe w'=>e=.returned (.bool (tl.all qU))/\Bl W w'):=ay λW K=>jk W vt tl (h.below K) Oo e3;have KE:Hh (∀W,Bl w W->Cl 50 #[vt] W λe w'=>∃v,e=.returned v/\ISS w' v (tl.map TbV.vs)/\Bl W w'):=ay λW K=>ug W vt tl (h.below K) hl;have KP:Hh (∀W v,Bl w W->ISS W v (tl.map TbV.vs)->Cl 49 #[ai k,v,.agg #[v0,v1,v2,v3,ai x,ai y]] W λe w'=>e=.returned (.bool (zM k (tl.map TbV.vs) bs ps hs ws (x,y)))/\Bl W w'):=ay λW v K hv=>Qv W v0 v1 v2 v3 v k x y _ bs ps hs ws hv (Yg hl e3) (hp.below K).b h6 (hp.below K).p h7 (hp.below K).h (hp.below K).d;have KB:Hh (qe k tl bs ps hs ws (x,y)=true->∀W vb j,Bl w W->j<bs.length->IS W vb (bs.getD j [])->Cl 54 #[vb,vt] W λe w'=>∃(q0:Option Addr) (m0 z0:Nat) (q1:Option Addr) (m1 z1:Nat) (q2:Option Addr) (m2 z2:Nat) (us:List Value),e=.returned (.tuple #[.agg #[.slice q0 m0 z0,.slice q1 m1 z1,.slice q2 m2 z2],ai (bgV tl (bs.getD j []))])/\TWr w' W.1.size ⟨.slice q0 m0 z0,.slice q1 m1 z1,.slice q2 m2 z2,us,(bgT tl (bs.getD j [])).vs,(bgT tl (bs.getD j [])).rows,(bgT tl (bs.getD j [])).ws⟩/\Bl W w'):=ay λhr W vb j K hj hb=>by
  obtain⟨r1,r2,r3,r4,r5⟩:=qp hr;refine(Yc W vb vt _ tl hb (h.below K) (r5 j hj).2 r4 (λt ht=>aT.1 r1 t ht)).mono ?_;rintro e w' ⟨x0,x1,x2,us,rfl,hT,j5⟩;obtain⟨q0,z0,e0⟩:=qG hT.o0;obtain⟨q1,z1,e1⟩:=qG hT.rq.own;obtain⟨q2,z2,e2⟩:=qG hT.o2;subst e0 e1 e2;exact⟨_,_,_,_,_,_,_,_,_,us,rfl,hT,j5⟩
 have e4:Hh (∀W,Bl w W->∀j,j<bs.length->∃(a:Option Addr) (b o:Nat) (u:Value) (cap:Nat),v0=.slice a bs.length cap/\a=some (az b o)/\W.cell? (az b (o+j))=some u/\IS W u (bs.getD j [])):=ay λW K j hj=>by
  obtain⟨a,cap,e,hh⟩:=(hp.below K).b;rcases hh with h0|⟨b,o,ea,hh⟩;omega;obtain⟨u,h1,h2⟩:=hh j hj;exact⟨a,b,o,u,cap,e,ea,h1,h2⟩
 have a8:Hh (qe k tl bs ps hs ws (x,y)=(tl.all qU&&zM k (tl.map TbV.vs) bs ps hs ws (x,y))):=ay rfl;have b8:Hh (qe k tl bs ps hs ws (x,y)=false->xe k tl bs ps hs ws (x,y)=[]/\zW k tl bs ps hs ws (x,y)=-1):=ay qEo;have O:Hh (∀j,j<bs.length->bgV tl (bs.getD j [])<0->xe k tl bs ps hs ws (x,y)=[]/\zW k tl bs ps hs ws (x,y)=-1):=ay λj hj hn=>qCT hj hn;have U:Hh (qe k tl bs ps hs ws (x,y)=true->(∀i,i<bs.length->0<=bgV tl (bs.getD i []))->xe k tl bs ps hs ws (x,y)=bs.map (bgT tl)/\zW k tl bs ps hs ws (x,y)=zz tl bs bs.length):=ay qCU;have V:Hh (qe k tl bs ps hs ws (x,y)=true->bs.length<=12):=ay λhr=>(qp hr).2.2.1;have e5:Hh (∀j,j<bs.length->zz tl bs (j+1)=zz tl bs j+bgV tl (bs.getD j [])):=ay λj hj=>QV hj;have e6:Hh (∀j,j<=bs.length->-1*(j:Int)<=zz tl bs j/\zz tl bs j<=60000*(j:Int)):=ay (Yf tl bs);have h8:Hh (∀b,-1<=bgV tl b/\bgV tl b<=60000):=ay λb=>⟨Ye,Yd⟩;have e7:Hh (∀j,j<bs.length->(bs.take (j+1)).map (bgT tl)=(bs.take j).map (bgT tl)++[bgT tl (bs.getD j [])]):=ay λj hj=>VW hj;have h9:Hh ((bs.take bs.length).map (bgT tl)=bs.map (bgT tl)):=ay (by rw[tL]);obtain⟨a0,k0,rfl,-⟩:=hp.b;obtain⟨a1,k1,rfl,-⟩:=hp.p;obtain⟨a2,k2,rfl,-⟩:=hp.h;obtain⟨a3,k3,rfl,-⟩:=hp.d;clear hp h6 e3 h7;obtain⟨l0,ct,rfl,-⟩:=h;generalize zM k (tl.map TbV.vs) bs ps hs ws (x,y)=PL at *;generalize qe k tl bs ps hs ws (x,y)=RD at *;generalize xe k tl bs ps hs ws (x,y)=GT at *;generalize zW k tl bs ps hs ws (x,y)=GV at *;generalize tl.length=n at *;obtain⟨nb,i0⟩:=Ex bs.length;rw[<-i0]at KP KB e4 O U V e5 e6 e7 h9 ⊢;clear i0;generalize ps.length=np at *;generalize hs.length=nh at *;generalize ws.length=nw at *;obtain⟨W1,a4⟩:=Ex (w.alloc (.cells #[.slice a0 nb k0,.slice a1 np k1,.slice a2 nh k2,.slice a3 nw k3,ai x,ai y] 38));have i2:Hh (PX 38 W1 w.1.size (.slice a0 nb k0) (.slice a1 np k1) (.slice a2 nh k2) (.slice a3 nw k3) x y):=ay (by rw[a4];exact PX.made _ _ _ _ _ _ _ _);have a5:Hh (Bl w W1):=ay (by rw[a4];exact(bJ _ _).alloc (nR _) _);have a6:Hh (∀W,Bl W1 W->W.cell? (az w.1.size 0)=some (.slice a0 nb k0)/\W.cell? (az w.1.size 1)=some (.slice a1 np k1)/\W.cell? (az w.1.size 2)=some (.slice a2 nh k2)/\W.cell? (az w.1.size 3)=some (.slice a3 nw k3)/\W.cell? (az w.1.size 4)=some (ai x)/\W.cell? (az w.1.size 5)=some (ai y)):=ay λW K=>(i2.o.below K).six;obtain⟨s0,s1,s2,s3,s4,s5⟩:=a6.o W1.drew (b7 _);have b0:=ay (KA.o W1.drew (bt a5.o (b7 _)));have b9:Hh (∀W,Bl w W->GT=[]/\GV=-1->∃v rl,Ending.returned (.tuple #[.slice (some (az W.1.size 0)) 0 0,ai (-1)])=.returned (.tuple #[v,ai GV])/\TBs (W.alloc (.cells #[] 61)) w.1.size v rl/\rl.map tvB=GT/\Bl w (W.alloc (.cells #[] 61))):=ay λW K hg=>⟨_,[],by rw[hg.2],Z5 W _ K.size,by rw[hg.1];rfl,yk K _⟩;clear KA i2;cases hA:tl.all qU with
 |false=>
  rw[hA]at b0 a8;have HG:=ay (b8.o a8.o);clear b8 a8 hA KB KP KE O U V;go_enter Tryz.func30,Tryz.ntmps30;go_upto_region 1 with fail;rw[<-a4];clear a4
  first|go_region_law (first
   |(go_simp;go_at_call 53;refine b0.o.mono ?_;rintro e w2 ⟨rfl,a7⟩;have I:Bl W1 w2:=bt (b7 _) a7;obtain⟨r0,r1,r2,r3,r4,r5⟩:=a6.o w2 I)
   |fail)|fail
  all_goals go_wp2_with fail
  all_goals go_ret2
  all_goals exact b9.o _ (bt a5.o I) HG.o
 |true=>
  rw[hA]at b0 a8;rw[Bool.true_and]at a8;have b1:=ay a8.o;clear hA a8;cases PL with
  |false=>
   have HG:=ay (b8.o b1.o);clear b8 b1 KB O U V;go_enter Tryz.func30,Tryz.ntmps30;go_upto_region 1 with fail;rw[<-a4];clear a4;go_region_law (first
    |(go_simp;go_at_call 53;refine b0.o.mono ?_;rintro e w2 ⟨rfl,a7⟩;have I:Bl W1 w2:=bt (b7 _) a7;obtain⟨r0,r1,r2,r3,r4,r5⟩:=a6.o w2 I)
    |(go_simp;go_at_call 50;refine(KE.o w2 (bt a5.o I)).mono ?_;rintro e w3 ⟨v3,rfl,e8,c7⟩;have a9:Bl W1 w3:=bt I c7;obtain⟨t0,t1,t2,t3,t4,t5⟩:=a6.o w3 a9)
    |(go_simp;go_at_call 49;refine(KP.o w3 v3 (bt a5.o a9) e8).mono ?_;rintro e w4 ⟨rfl,c8⟩;have e9:Bl W1 w4:=bt a9 c8)
    |fail)
   all_goals go_wp2_with fail
   all_goals go_ret2
   all_goals exact b9.o _ (bt a5.o e9) HG.o
  |true=>
   have i3:=ay (KB.o b1.o);have j6:=ay (U.o b1.o);have l1:=V.o b1.o;clear b8 KB U V b1;go_enter Tryz.func30,Tryz.ntmps30;go_upto_region 1 with fail;rw[<-a4];clear a4;go_cut [24] from 14 to 23 (λv wx=>v=.bool false/\Hh (Bl W1 wx))
   case first=>
    go_region_law (first
     |(go_simp;go_at_call 53;refine b0.o.mono ?_;rintro e w2 ⟨rfl,a7⟩;have I:Bl W1 w2:=bt (b7 _) a7;obtain⟨r0,r1,r2,r3,r4,r5⟩:=a6.o w2 I)
     |(go_simp;go_at_call 50;refine(KE.o w2 (bt a5.o I)).mono ?_;rintro e w3 ⟨v3,rfl,e8,c7⟩;have a9:Bl W1 w3:=bt I c7;obtain⟨t0,t1,t2,t3,t4,t5⟩:=a6.o w3 a9)
     |(go_simp;go_at_call 49;refine(KP.o w3 v3 (bt a5.o a9) e8).mono ?_;rintro e w4 ⟨rfl,c8⟩;have e9:Bl W1 w4:=bt a9 c8)
     |fail)
    all_goals(go_wp2_with fail;go_meet)
    all_goals exact⟨rfl,ay e9⟩
   case rest=>
   obtain⟨rfl,f7⟩:=hcut;generalize wc=w4 at *;have f8:=ay (bt a5.o f7.o);have k4:Hh (∀W,Bl w4 W->W.cell? (az w.1.size 0)=some (.slice a0 nb k0)):=ay λW K=>(a6.o W (bt f7.o K)).1;clear b0 KE KP f7 s0 s1 s2 s3 s4 s5 a6;have s4:w.1.size<=w4.1.size:=f8.o.size;obtain⟨W5,f9⟩:=Ex (w4.alloc (.cells #[] 61));have d7:Hh (Bl w4 W5/\TBs W5 w4.1.size (.slice (some (az w4.1.size 0)) 0 0) []):=ay (by rw[f9];exact⟨aK,Z5 w4 _ (nR _)⟩);have c5:=k4.o W5 d7.o.1;go_upto_region 4 with fail;rw[<-f9];clear f9;go_wp2_with fail;clear c5;have i4:Hh ((0:Int)=zz tl bs 0):=ay rfl;go_loopw [8,9,30] (λv8 v9 t wr=>∃(j:Nat) (vj:Value) (z:Int),j<=nb/\t=ai j/\vj=v8/\v9=ai z/\Hh (z=zz tl bs j/\(∃rl,Bl w4 wr/\TBs wr w4.1.size vj rl/\rl.map tvB=(bs.take j).map (bgT tl))/\∀i,i<j->0<=bgV tl (bs.getD i []))) (λ_ _ t _=>nb-(intOf t).toNat);exact⟨0,_,0,nZ _,rfl,rfl,rfl,ay ⟨i4.o,⟨[],d7.o.1,d7.o.2,rfl⟩,λi hi=>Oo⟩⟩;clear d7 i4;obtain⟨j,vj,z,k5,rfl,rfl,rfl,HT⟩:=hrel;obtain⟨hz,⟨rl,hB,hT,hE⟩,hV⟩:=HT.o;have HB:=ay hB;have c9:=ay hT;have HE:=ay hE;have HV:=ay hV;have HZ:=ay hz;have k6:=e6.o j k5;rw[<-hz]at k6;clear HT hB hT hE hV hz;by_cases d3:j<nb
   ·have i1:(j:Int)<(nb:Int):=Oo;have g4:=ay (bt f8.o HB.o);obtain⟨a,b,o,u,cap,ev,ea,e1,hu⟩:=e4.o wr g4.o j d3;simp only[Value.slice.injEq,true_and]at ev;obtain⟨rfl,-⟩:=ev;subst ea;have g5:=ay (i3.o wr u j g4.o d3 hu);have g6:=ay (O.o j d3);have d8:=ay (e7.o j d3);have g7:=ay (e5.o j d3);have l2:=h8.o (bs.getD j []);have g8:Hh (0<=bgV tl (bs.getD j [])->∀i,i<j+1->0<=bgV tl (bs.getD i [])):=ay λhy i hi=>by
     by_cases e:i=j;rw[e];exact hy;exact HV.o i Oo
    obtain⟨au,cu,rfl,-⟩:=hu;generalize (bs.getD j []).length=lb at *;obtain⟨tv,i5⟩:=Ex (bgT tl (bs.getD j []));rw[<-i5]at g5 d8;clear i5;generalize bgV tl (bs.getD j [])=BV at *;clear i3 O e7 e5 e6 h8 e4;go_upto_region 8 with (first|(go_at_call 54;refine g5.o.mono ?_;rintro e w6 ⟨q0,m0,z0,q1,m1,z1,q2,m2,z2,i6,rfl,i7,i8⟩)|fail);obtain⟨W7,d9⟩:=Ex (w6.alloc (.cells #[.slice q0 m0 z0,.slice q1 m1 z1,.slice q2 m2 z2] 61));have h3:Bl w6 W7:=by rw[d9];exact(bJ _ _).alloc (nR _) _
    have d4:Hh (TX W7 w6.1.size (.slice q0 m0 z0) (.slice q1 m1 z1) (.slice q2 m2 z2)):=ay (by rw[d9];exact TX.made _ _ _ _);have h4:Hh (TWr W7 wr.1.size ⟨.slice q0 m0 z0,.slice q1 m1 z1,.slice q2 m2 z2,i6,tv.vs,tv.rows,tv.ws⟩):=ay (TW.below i7 h3);have d5:=ay (bt i8 h3);rw[<-d9];clear d9 i7 i8 h3 g5 e1;by_cases i9:BV<0
    ·have HG:=ay (g6.o i9);clear d4 h4 c9 HE HV g8 g6 d8 g7;go_wp2_with fail;go_ret2;exact b9.o _ (bt g4.o d5.o) HG.o
    have l3:rl.length<=12:=by have h1:=congrArg List.length HE.o;rw[lM,lM,bW]at h1;omega
    have h5:=ay (qB c9.o.own d5.o);have d0:=d4.o.c0;have d1:=d4.o.c1;have d2:=d4.o.c2;have l4:wr.1.size<=W7.1.size:=d5.o.size;have k7:w4.1.size<=wr.1.size:=HB.o.size;go_wp2_with (first|(at_builtin;refine wpList_append_lies _ rfl _ _ 32 rfl w4.1.size 61 iT (.agg #[sn,sn,sn]) 3 72 Tryz.underlying32 hj j2 j3 j4 rfl Dd vj rl.length (rl.flatMap tcs) rfl (h5.o.alloc _) (az _ 0) 1 1 [.slice q0 m0 z0,.slice q1 m1 z1,.slice q2 m2 z2] rfl rfl (xd _ _ _ _ _) (λu hu=>by simp at hu;rcases hu with rfl|rfl|rfl <;> rfl) Dd Um Oo Sy _ rfl ?_;intro g9 k8 w9 d6 M j0 j1)|fail);have HN:Hh (z+BV=zz tl bs (j+1)/\(∃rl',Bl w4 w9/\TBs w9 w4.1.size (.slice (some (az g9 0)) (rl.length+1) k8) rl'/\rl'.map tvB=(bs.take (j+1)).map (bgT tl))/\∀i,i<j+1->0<=bgV tl (bs.getD i [])):=ay ⟨by rw[g7.o,HZ.o],⟨_,(yk (bt HB.o d5.o) _).grown M Sy (λq hq=>(h5.o.lt q hq).1),c9.o.row k7 W7 ⟨.slice q0 m0 z0,.slice q1 m1 z1,.slice q2 m2 z2,i6,tv.vs,tv.rows,tv.ws⟩ _ w9 _ d5.o h4.o M d6,by rw[mA,HE.o,d8.o];rfl⟩,g8.o Oo⟩;clear d6 M j0 j1 h5 c9 h4 d4 HE HV g8 g6 d8 g7 HZ d0 d1 d2;go_wp2_with fail;go_roundw;exact⟨j+1,_,z+BV,Oo,Gg,rfl,rfl,HN⟩;exact Im
   obtain rfl:j=nb:=Oo;have i1:¬((j:Int)<(j:Int)):=Oo;have HG:=ay (j6.o HV.o);go_wp2_with fail;go_ret2;refine⟨vj,?_,rl,c9.o.base s4,?_,bt f8.o HB.o⟩;rw[HG.o.2,<-HZ.o];rfl;rw[HG.o.1,HE.o,h9.o]
structure ShTb(lo hi:Nat)(W:World)(g i:Nat)(t:TbV):Prop where
 vs:∃c,W.cell? (az g (i*3))=some (.slice (some (az c 0)) t.vs.length t.vs.length)/\ShI lo hi W c t.vs.length
 rows:∃G,W.cell? (az g (i*3+1))=some (.slice (some (az G 0)) t.rows.length t.rows.length)/\ShSS lo hi W G t.rows.length (λj=>(t.rows.getD j []).length)
 ws:∃c,W.cell? (az g (i*3+2))=some (.slice (some (az c 0)) t.ws.length t.ws.length)/\ShI lo hi W c t.ws.length
theorem ShTb.kp{i:Nat}{t:TbV}(h:ShTb lo hi W g i t)(k:Mk lo hi W W'):ShTb lo hi W' g i t:=by
 obtain⟨c0,I,K⟩:=h.vs;obtain⟨G,M,O⟩:=h.rows;obtain⟨c2,U,V⟩:=h.ws;exact⟨⟨c0,k.sl _ _ _ _ _ I,K.kp k⟩,⟨G,k.sl _ _ _ _ _ M,O.kp k⟩,⟨c2,k.sl _ _ _ _ _ U,V.kp k⟩⟩
def qGi(lo hi:Nat)(W:World)(g:Nat)(tl:List TbV):Prop:=∀i,i<tl.length->ShTb lo hi W g i (tl.getD i qA)
theorem HalfT.sh(h:HalfT W g tl.length tl.length tl):qGi g W.1.size W g tl:=λi hi=>by
 obtain⟨g0,g1,g2,f,c0,c1,c2,ho⟩:=h.copy i hi;have K:=ho.lt0;have M:=ho.lt1;have O:=ho.lt3;refine⟨⟨g0,c0,ho.vr.sh Oo ho.vr.lt⟩,⟨g1,c1,λj I=>?_⟩,⟨g2,c2,ho.wt.sh Oo ho.wt.lt⟩⟩;have e:=ho.rw.cell j I;rw[if_pos I]at e;have U:=ho.rw.gt j I;exact⟨f j,e,(ho.rw.own j I).sh Oo (ho.rw.own j I).lt⟩
theorem HalfT.its(h:HalfT W g tl.length tl.length tl):ITs W (.slice (some (az g 0)) tl.length c) tl:=by
 refine⟨_,_,rfl,Or.inr ⟨g,0,rfl,λj I=>?_⟩⟩;obtain⟨g0,g1,g2,f,c0,c1,c2,ho⟩:=h.copy j I;rw[Nat.zero_add];exact⟨_,_,_,c0,c1,c2,ho.it⟩
theorem UR(w:World)(lo hi g cap:Nat)(tl:List TbV)(h:qGi lo hi w g tl)(hn:tl.length+xM tl<=1048576):
 Cl 12 #[.slice (some (az g 0)) tl.length cap,ai 1] w λe w'=>∃z:Nat,e=.returned (ai (z:Int))/\z<=1048577/\Mk lo hi w w':=by
 have HS:Hh (∀wr,Mk lo hi w wr->∀i,i<tl.length->ShTb lo hi wr g i (tl.getD i qA)):=ay λwr M i hi=>(h i hi).kp M;have a5:Hh (∀j,j<tl.length->xM (tl.take (j+1))=xM (tl.take j)+szB (tl.getD j qA)):=ay λj hj=>by
  unfold xM;rw[tA,gE hj,mA,List.sum_append,gD,gE hj];simp
 have O:Hh (∀j,j<=tl.length->xM (tl.take j)<=xM tl):=ay λj _=>by
  have:xM tl=xM (tl.take j)+xM (tl.drop j):=by
   unfold xM;rw[<-List.sum_append,<-mA,tD]
  omega
 have HZ:Hh (∀t:TbV,szB t=t.vs.length+(t.rows.length+vP (λj=>(t.rows.getD j []).length) t.rows.length)+t.ws.length):=ay λt=>by unfold szB;rw[XM t.rows t.rows.length (nR _)]
 obtain⟨n,a6⟩:=Ex tl.length;rw[<-a6]at HS a5 O hn ⊢;clear a6 h;go_enter Tryz.func12,Tryz.ntmps12;go_wp2_with fail;go_loopw [1,5] (λu t wr=>∃(j c:Nat),j<=n/\t=ai j/\u=ai (c:Int)/\c<=1+xM (tl.take j)/\Hh (Mk lo hi w wr)) (λ_ t _=>n-(intOf t).toNat);exact⟨0,1,nZ _,rfl,rfl,Oo,ay (Mk.refl _ _ _)⟩;obtain⟨j,c,hj,rfl,rfl,hc,HM⟩:=hrel;have b9:=O.o j hj;by_cases U:j<n
 ·have i1:(j:Int)<(n:Int):=Oo;have hS:=HS.o wr HM.o j U;have c7:=a5.o j U;have b8:=O.o (j+1) U;have hz:=HZ.o (tl.getD j qA);obtain⟨b0,c0,s0⟩:=hS.vs;have V:Hh (∀W,Mk lo hi wr W->ShTb lo hi W g j (tl.getD j qA)):=ay λW M=>hS.kp M;generalize tl.getD j qA=tb at *;have K0:=ay (ye wr lo hi b0 tb.vs.length tb.vs.length c s0 Oo Oo);obtain⟨L1,a7⟩:=Ex (c+tb.vs.length);obtain⟨L2,a8⟩:=Ex (L1+vP (λj=>(tb.rows.getD j []).length) tb.rows.length);obtain⟨L3,a9⟩:=Ex (L2+tb.ws.length);rw[<-a7]at K0;have KR:Hh (∀W,Mk lo hi wr W->∃G,W.cell? (az g (j*3+1))=some (.slice (some (az G 0)) tb.rows.length tb.rows.length)/\Cl 39 #[.slice (some (az G 0)) tb.rows.length tb.rows.length,ai (L1:Int)] W λe w'=>e=.returned (ai (L2:Int))/\Mk lo hi W w'):=ay λW M=>by
   obtain⟨G,h1,h2⟩:=(V.o W M).rows;refine⟨G,h1,?_⟩;have:=Qt W lo hi G tb.rows.length tb.rows.length L1 _ h2 Oo Oo Oo;rw[<-a8]at this;exact this
  have KW:Hh (∀W,Mk lo hi wr W->∃G,W.cell? (az g (j*3+2))=some (.slice (some (az G 0)) tb.ws.length tb.ws.length)/\Cl 38 #[.slice (some (az G 0)) tb.ws.length tb.ws.length,ai (L2:Int)] W λe w'=>e=.returned (ai (L3:Int))/\Mk lo hi W w'):=ay λW M=>by
   obtain⟨G,h1,h2⟩:=(V.o W M).ws;refine⟨G,h1,?_⟩;have:=ye W lo hi G tb.ws.length tb.ws.length L2 h2 Oo Oo;rw[<-a9]at this;exact this
  have b1:L3<=1+xM (tl.take (j+1)):=Oo;clear s0 hS a7 a8 a9 hz V;generalize tb.vs.length=n0 at *;generalize tb.rows.length=nr at *;generalize tb.ws.length=n2 at *;go_wp2_with (first
   |(go_at_call 38;refine K2.mono ?_;rintro e w4 ⟨rfl,I⟩;have b7:=ay (HM.o.trans (a3.trans I)))
   |(go_at_call 39;refine K1.mono ?_;rintro e w3 ⟨rfl,K⟩;have a3:=a4.trans K;obtain⟨G2,d2,K2⟩:=KW.o w3 a3)
   |(go_at_call 38;refine K0.o.mono ?_;rintro e w2 ⟨rfl,a4⟩;obtain⟨G1,d1,K1⟩:=KR.o w2 a4)
   |fail)
  clear a4 a3 K I K1 K2 K0 KR KW;go_roundw;exact⟨j+1,L3,Oo,Gg,rfl,b1,b7⟩;exact Im
 obtain rfl:j=n:=Oo;have i1:¬((j:Int)<(j:Int)):=Oo;go_wp2;go_ret;exact⟨c,rfl,Oo,HM.o⟩
theorem qAU(w:World)(lo hi g n cap k:Nat)(h:ShI lo hi w g (n*2))(hn:n<=1048576)(hk:k<=1099511627776):
 Cl 40 #[.slice (some (az g 0)) n cap,ai (k:Int)] w λe w'=>e=.returned (ai ((k+n*2:Nat):Int))/\Mk lo hi w w':=by
 have M:=ay h;clear h;go_enter Tryz.func40,Tryz.ntmps40;go_wp2;go_loopw [1,5] (λu t wr=>∃j:Nat,j<=n/\t=ai j/\u=ai ((k+j*2:Nat):Int)/\Hh (Mk lo hi w wr)) (λ_ t _=>n-(intOf t).toNat);exact⟨0,nZ _,rfl,rfl,ay (Mk.refl _ _ _)⟩;obtain⟨j,hj,rfl,rfl,K⟩:=hrel;by_cases O:j<n
 ·have U:(j:Int)<(n:Int):=Oo;have I:=M.o.kp K.o;obtain⟨x,c2⟩:=I.cell (j*2) Oo;obtain⟨y,c3⟩:=I.cell (j*2+1) Oo;have f2:=I.free (j*2) Oo;have f3:=I.free (j*2+1) Oo;have V:Hh (∀a b:Int,Mk lo hi w ((wr.setCell (az g (j*2)) (ai a)).setCell (az g (j*2+1)) (ai b))):=ay λa b=>(K.o.trans (Mk.setI c2 I.lo I.hi)).trans (Mk.setI (x:=y) ((bC _ _ _ _ Nq).trans c3) I.lo I.hi);clear I K;go_wp2;go_roundw;exact⟨j+1,Oo,Gg,Gg,ay (V.o _ _)⟩;exact Im
 obtain rfl:j=n:=Oo;have U:¬((j:Int)<(j:Int)):=Oo;go_wp2;go_ret;first|exact⟨rfl,K.o⟩|exact K.o
structure ShPl(lo hi:Nat)(W:World)(g0 g1 g2 g3:Nat)(bs:LL)(np nh nw:Nat):Prop where
 b:ShSS lo hi W g0 bs.length (λj=>(bs.getD j []).length)
 p:ShI lo hi W g1 np
 h:ShI lo hi W g2 nh
 d:ShI lo hi W g3 (nw*2)
theorem ShPl.kp(h:ShPl lo hi W g0 g1 g2 g3 bs np nh nw)(k:Mk lo hi W W'):ShPl lo hi W' g0 g1 g2 g3 bs np nh nw:=⟨h.b.kp k,h.p.kp k,h.h.kp k,h.d.kp k⟩
theorem qAV(w:World)(lo hi g0 g1 g2 g3 k np nh nw c0 c1 c2 c3:Nat)(x y:Int)(bs:LL)(h:ShPl lo hi w g0 g1 g2 g3 bs np nh nw)(hb:tot bs bs.length<=1048576)(hp:np<=1048576)(a3:nh<=1048576)(hw:nw<=1048576)(hk:k<=10000000):
 Cl 13 #[.agg #[.slice (some (az g0 0)) bs.length c0,.slice (some (az g1 0)) np c1,.slice (some (az g2 0)) nh c2,.slice (some (az g3 0)) nw c3,ai x,ai y],ai (k:Int)] w λe w'=>∃z:Nat,e=.returned (ai (z:Int))/\Mk lo hi w w':=by
 have a4:=XM bs bs.length (nR _);have a5:bs.length<=1048576:=by unfold tot at hb;omega
 obtain⟨K,I⟩:=Ex (w.alloc (.cells #[.slice (some (az g0 0)) bs.length c0,.slice (some (az g1 0)) np c1,.slice (some (az g2 0)) nh c2,.slice (some (az g3 0)) nw c3,ai x,ai y] 38));have O:Bl w K:=by rw[I];exact(bJ _ _).alloc (nR _) _
 have U:Hh (Mk lo hi w K):=ay (Mk.of_below O);have V:Hh (∀W,Mk lo hi K W->ShPl lo hi W g0 g1 g2 g3 bs np nh nw):=ay λW M=>(h.kp U.o).kp M;have q0:K.cell? (az w.1.size 0)=some (.slice (some (az g0 0)) bs.length c0):=by rw[I,bE _ _ _ _ rfl];rfl
 have q1:K.cell? (az w.1.size 1)=some (.slice (some (az g1 0)) np c1):=by rw[I,bE _ _ _ _ rfl];rfl
 have q2:K.cell? (az w.1.size 2)=some (.slice (some (az g2 0)) nh c2):=by rw[I,bE _ _ _ _ rfl];rfl
 have q3:K.cell? (az w.1.size 3)=some (.slice (some (az g3 0)) nw c3):=by rw[I,bE _ _ _ _ rfl];rfl
 obtain⟨L,hL⟩:=Ex (vP (λj=>(bs.getD j []).length) bs.length);have K0:=ay (Qt K lo hi g0 bs.length c0 k _ (V.o K (Mk.refl _ _ _)).b a5 Oo Oo);rw[<-hL]at K0;have a9:L<=1048576:=Oo;have K1:Hh (∀W,Mk lo hi K W->Cl 38 #[.slice (some (az g1 0)) np c1,ai ((k+L:Nat):Int)] W λe w'=>e=.returned (ai ((k+L+np:Nat):Int))/\Mk lo hi W w'):=ay λW M=>ye W lo hi g1 np c1 (k+L) (V.o W M).p hp Oo;have K2:Hh (∀W,Mk lo hi K W->Cl 38 #[.slice (some (az g2 0)) nh c2,ai ((k+L+np:Nat):Int)] W λe w'=>e=.returned (ai ((k+L+np+nh:Nat):Int))/\Mk lo hi W w'):=ay λW M=>ye W lo hi g2 nh c2 (k+L+np) (V.o W M).h a3 Oo;have K3:Hh (∀W,Mk lo hi K W->Cl 40 #[.slice (some (az g3 0)) nw c3,ai ((k+L+np+nh:Nat):Int)] W λe w'=>e=.returned (ai ((k+L+np+nh+nw*2:Nat):Int))/\Mk lo hi W w'):=ay λW M=>qAU W lo hi g3 nw c3 (k+L+np+nh) (V.o W M).d hw Oo;clear V h O a4 hL;generalize bs.length=nb at *;go_enter Tryz.func13,Tryz.ntmps13;go_upto_region 1 with fail;rw[<-I];clear I;go_wp2_with fail;refine K0.o.mono ?_;rintro e w2 ⟨rfl,m2⟩;have r1:=m2.sl _ _ _ _ _ q1;go_wp2_with fail;refine(K1.o w2 m2).mono ?_;rintro e w3 ⟨rfl,a6⟩;have m3:=m2.trans a6;have r2:=m3.sl _ _ _ _ _ q2;go_wp2_with fail;refine(K2.o w3 m3).mono ?_;rintro e w4 ⟨rfl,a7⟩;have m4:=m3.trans a7;have r3:=m4.sl _ _ _ _ _ q3;go_wp2_with fail;refine(K3.o w4 m4).mono ?_;rintro e w5 ⟨rfl,a8⟩;have m5:=m4.trans a8;go_wp2_with fail;go_ret;exact⟨_,rfl,U.o.trans m5⟩
theorem qAr:∀{l:List Nat} {x:Nat},x∈l->x<=l.sum
 |y::l,x,h=>by
  rw[List.sum_cons];rcases List.mem_cons.1 h with rfl|I;omega;have:=qAr I;omega
theorem qEz(h:tl.length+xM tl<=1048576):∀t∈tl,TvS t:=λt I=>by
 have K:szB t<=xM tl:=qAr (List.mem_map.2 ⟨t,I,rfl⟩);unfold szB at K;have M:t.rows.length<=tot t.rows t.rows.length:=by unfold tot;omega
 exact⟨Oo,⟨Oo,λj=>by have:=Zv t.rows j;omega⟩,Oo⟩
theorem Fr.belG{b:World}(h:Fr lo hi a b)(hs:lo<=a.1.size):Below lo a b:=⟨h.os,h.tape,h.output,h.size,λx I=>h.block x Oo (Or.inl I)⟩
theorem TBs.frG{b:World}{v:Value}(h:TBs a B v rl)(O:Fr lo hi a b)(hB:hi<=B):TBs b B v rl:=by
 have K:∀{e:TypeId} {s n:Nat} {u:Value} {xs:List Value},a.ownsRow B e s u n xs->b.ownsRow B e s u n xs:=λho=>qC ho λg M=>O.block g (ho.lt g M).2 (Or.inr (bM hB (ho.lt g M).1));exact⟨K h.own,λt I=>⟨K (h.each t I).o0,⟨K (h.each t I).rq.own,(h.each t I).rq.len,λi hi=>K ((h.each t I).rq.each i hi),(h.each t I).rq.ap⟩,K (h.each t I).o2,(h.each t I).a02,(h.each t I).a0,(h.each t I).a2⟩,h.ap⟩
theorem PX.frG{p:Nat}{ty:TypeId}{b:World}{v0 v1 v2 v3:Value}{x y:Int}(h:PX ty a p v0 v1 v2 v3 x y)(I:Fr lo hi a b)(K:hi<=p):PX ty b p v0 v1 v2 v3 x y:=⟨(I.block p h.lt (Or.inr K)).trans h.blk⟩
theorem ShI.kpA(h:ShI lo hi W g n)(k:Mk I K W W'):ShI lo hi W' g n:=
 ⟨h.lo,h.hi,bN h.lt k.fr.size,λj M=>by obtain⟨x,e⟩:=h.cell j M;exact k.num _ _ _ e,λj M=>k.froz _ _ h.lt (h.free j M)⟩
theorem ShPl.kpA(h:ShPl lo hi W g0 g1 g2 g3 bs np nh nw)(k:Mk I K W W'):ShPl lo hi W' g0 g1 g2 g3 bs np nh nw:=
 ⟨λj M=>by obtain⟨c,e,O⟩:=h.b j M;exact⟨c,k.sl _ _ _ _ _ e,O.kpA k⟩,h.p.kpA k,h.h.kpA k,h.d.kpA k⟩
theorem Uf(w:World)(a0 a1 a2 b0 b1 b2:Value)(K wa vb wb:LI)(I rb:LL)(hA:IT w a0 a1 a2 K I wa)(hB:IT w b0 b1 b2 vb rb wb)(j2:K.length<=1099511627776)(m8:qT I)(j3:vb.length<=1099511627776)(m9:qT rb)(g4:ql K I wa=true)(j4:ql vb rb wb=true):
 Cl 57 #[.agg #[a0,a1,a2],.agg #[b0,b1,b2]] w λe w'=>∃x0 x1 x2 us,e=.returned (.agg #[x0,x1,x2])/\TQ w' w.1.size x0 x1 x2 us K (kpR (Q6 K vb I rb) I I.length) (kpW (Q6 K vb I rb) wa I.length)/\Bl w w':=by
 obtain⟨i0,hi,r5,r6,r7⟩:=info_parts Tryz.infoInt;obtain⟨iS,hj,r8,r9,s1⟩:=info_parts Tryz.infoIS;obtain⟨W1,h4⟩:=Ex (three w a0 a1 a2 b0 b1 b2);obtain⟨a7,j5,j6,k3⟩:=qEb w a0 a1 a2 b0 b1 b2;rw[<-h4]at a7 j5 j6 k3;have d3:=ay j5;have a9:=ay j6;have s2:=ay k3;have h5:=ay a7;obtain⟨k4,x3,k5⟩:=qZ g4;obtain⟨k6,x4,n3⟩:=qZ j4;have s3:=zK k4;have s4:=zK k6;have k7:=xJ k4;have n4:=xJ k6;have n5:wa.length=I.length:=by
  unfold ql at g4;simp only[Bool.and_eq_true,decide_eq_true_eq]at g4;omega
 have k8:=ay (yo W1 a0 a1 a2 K I wa (hA.below a7) j2 m8);have k9:Hh (∀W,Bl W1 W->Cl 74 #[.agg #[b0,b1,b2]] W λe w'=>e=.returned (.bool (ql vb rb wb))/\Bl W w'):=ay λW hW=>yo W b0 b1 b2 vb rb wb (hB.below (bt a7 hW)) j3 m9;rw[g4]at k8;rw[j4]at k9;obtain⟨sh,d4⟩:=Ex (shr K vb);obtain⟨pl,d5⟩:=Ex (plc (λi=>decide (K.getD i 0∈vb)) K.length);obtain⟨keys,V⟩:=Ex (XV K vb rb);have x5:sh.length<=6:=by have:=vE K vb;rw[d4];omega
 have v7:pl.length<=6:=by rw[d5];have:=xp (λi=>decide (K.getD i 0∈vb)) K.length;omega
 have x7:keys.length<=10000:=by have:=qFv K vb rb;rw[V];omega
 have l1:∀r∈keys,r.length=sh.length:=by rw[V,d4];exact qEc
 have KP:Hh (∀W,Bl W1 W->Cl 75 #[a0,b0] W λe w'=>∃v,e=.returned v/\w'.ownsRow W.1.size 3 1 v pl.length (pl.map ai)/\Bl W w'):=ay λW hW=>by
  rw[d5];exact xI W a0 b0 K vb (hA.vs.below (bt a7 hW)) (hB.vs.below (bt a7 hW)) j2 j3
 have KV:Hh (∀W u,Bl W1 W->IS W u pl->Cl 77 #[a0,u] W λe w'=>∃v,e=.returned v/\w'.ownsRow W.1.size 3 1 v sh.length (sh.map ai)/\Bl W w'):=ay λW u hW hu=>by
  have h1:=yZ W a0 u K pl (hA.vs.below (bt a7 hW)) hu Oo (by rw[d5];exact qDL K vb);have e:atP K pl=sh:=by rw[d5,d4];exact QH K vb
  rw[e]at h1;exact h1
 have n6:Hh (∀W u,Bl W1 W->IS W u sh->Cl 80 #[.agg #[b0,b1,b2],u] W λe w'=>∃v uo,e=.returned v/\RQ w' W.1.size v uo keys/\Bl W w'):=ay λW u hW hu=>by
  have h1:=vd W b0 b1 b2 u vb rb wb sh (hB.below (bt a7 hW)) hu Oo Oo Oo n3;rw[d4]at h1;rw[Vq n4 (Q7 k7) (λx=>vC)]at h1;rw[V];exact h1
 have n7:Hh (∀W u,ISS W u keys->Cl 79 #[u] W λe w'=>∃c,e=.returned (.pointer c)/\TC W w' keys c/\Bl W w'):=ay λW u hu=>
  ZK W u keys hu (by rw[V];exact qFu K vb rb) Oo (λr hr=>by have:=l1 r hr;omega)
 have n8:Hh (∀W,Bl W1 W->Cl 81 #[a0] W λe w'=>∃v,e=.returned v/\w'.ownsRow W.1.size 3 1 v K.length (K.map ai)/\Bl W w'):=ay λW hW=>vF W a0 K (hA.vs.below (bt a7 hW)) Oo;have n9:Hh (∀W u up j,j<I.length->IS W u (I.getD j [])->IS W up pl->Cl 77 #[u,up] W λe w'=>∃v,e=.returned v/\w'.ownsRow W.1.size 3 1 v (qI K sh (I.getD j [])).length ((qI K sh (I.getD j [])).map ai)/\Bl W w'):=ay λW u up j l2 hu s5=>by
  have hm:I.getD j []∈I:=by rw[gD,gE l2];exact gM _
  have h1:=yZ W u up (I.getD j []) pl hu s5 Oo (by rw[k5 _ hm,d5];exact qDL K vb);have e:atP (I.getD j []) pl=qI K sh (I.getD j []):=by rw[d5,d4];exact qBP k7
  rw[e]at h1;exact h1
 have KH:Hh (∀W3 w4 W c u j,TC W3 w4 keys c->Bl w4 W->IS W u (qI K sh (I.getD j []))->Cl 82 #[.pointer c,u] W λe w'=>e=.returned (.bool (Q6 K vb I rb j))/\Bl W w'):=ay λW3 w4 W c u j hT hW hu=>by
  have h1:=hT.has hW l1 Oo Oo hu (yT _ _ _);unfold Q6 VM;rw[<-V,<-d4];exact h1
 have o3:Hh (∀W u j,j<I.length->IS W u (I.getD j [])->Cl 81 #[u] W λe w'=>∃v,e=.returned v/\w'.ownsRow W.1.size 3 1 v (I.getD j []).length ((I.getD j []).map ai)/\Bl W w'):=ay λW u j l2 hu=>by
  have hm:I.getD j []∈I:=by rw[gD,gE l2];exact gM _
  exact vF W u _ hu (by rw[k5 _ hm];omega)
 obtain⟨p0,k0,e0,-⟩:=hA.vs;have s6:=hA.rows;obtain⟨p1,k1,e1,o4⟩:=hA.rows;obtain⟨p2,k2,e2,o5⟩:=hA.ws;obtain⟨q0,m0,f0,-⟩:=hB.vs;obtain⟨q1,m1,f1,-⟩:=hB.rows;obtain⟨q2,m2,f2,-⟩:=hB.ws;have o6:Hh (∀W,Bl w W->∀j,j<I.length->∃(b o:Nat) (u:Value),p1=some (az b o)/\W.cell? (az b (o+j))=some u/\IS W u (I.getD j [])):=ay λW hW j hj=>by
  rcases o4 with h0|⟨b,o,rfl,h⟩;omega;obtain⟨u,h1,h2⟩:=h j hj;exact⟨b,o,u,rfl,(hW.cell (bL w _ h1)).trans h1,h2.below hW⟩
 have o7:Hh (∀W,Bl w W->∀j,j<I.length->∃(b o:Nat),p2=some (az b o)/\W.cell? (az b (o+j))=some (ai (wa.getD j 0))):=ay λW hW j hj=>by
  rcases o5 with h0|⟨b,o,rfl,h⟩;omega;exact⟨b,o,rfl,(hW.cell (bL w _ (h j Oo))).trans (h j Oo)⟩
 unfold three at h4;subst e0 e1 e2 f0 f1 f2;rw[n5]at *;generalize Q6 K vb I rb=P at *;clear hA hB s6 o4 o5 a7 j5 j6 k3 j2 m8 j3 m9 k5 n3 l1 k7 n4 k4 k6 g4 j4 d4 d5 V n5 s3 s4;have d0:=d3.o.c0;have d1:=d3.o.c1;have d2:=d3.o.c2;generalize I.length=n at *;generalize hl0:K.length=l0 at *;have o8:=ay hl0;clear hl0;generalize vb.length=n0 at *;generalize rb.length=n1 at *;generalize wb.length=n2 at *;go_enter Tryz.func57,Tryz.ntmps57;go_upto_region 1 with fail;rw[<-h4];clear h4;go_wp2_with fail;refine k8.o.mono ?_;rintro e w2 ⟨rfl,f8⟩;have o9:=ay f8;have i3:=ay (k9.o w2 f8);have d0:=(a9.o.below f8).c0;have d1:=(a9.o.below f8).c1;have d2:=(a9.o.below f8).c2;clear f8 k8 k9;go_wp2_with fail;refine i3.o.mono ?_;rintro e w3 ⟨rfl,p3⟩;have g5:=ay (bt o9.o p3);clear p3 i3 o9 d0 d1 d2;have d0:=(d3.o.below g5.o).c0;have d1:=(a9.o.below g5.o).c0;have p4:=ay (KP.o w3 g5.o);go_wp2_with fail;refine p4.o.mono ?_;rintro e w4 ⟨v4,rfl,l3,p5⟩;have d6:=ay (bt g5.o p5);have l4:=ay (qS l3);obtain⟨a4,c4,e4⟩:=qg l3;subst e4;clear l3 p5 KP p4 g5 d0 d1;go_upto_region 4 with fail;go_cut [6] from 24 to 30 (λv wx=>∃c,v=.pointer c/\Hh (∃W3,TC W3 wx keys c/\Bl W1 wx/\IS wx (.slice a4 pl.length c4) pl))
 case first=>
  have d0:=(d3.o.below d6.o).c0;have g0:=(a9.o.below d6.o).c0;have g1:=(a9.o.below d6.o).c1;have g2:=(a9.o.below d6.o).c2;go_region_law (first
   |(go_simp;go_at_call 77;(with_reducible refine(KV.o _ _ (d6.o.drew) (l4.o.below (bJ _ _).drew)).mono ?_);rintro e w5 ⟨u5,rfl,l5,i4⟩;have p6:=jx i4;have s7:=ay (qS l5);have g6:=ay (bt d6.o p6);have y0:=(a9.o.below g6.o).c0;have y1:=(a9.o.below g6.o).c1;have y2:=(a9.o.below g6.o).c2;obtain⟨a5,c5,e5⟩:=qg l5;subst e5;clear l5 i4)
   |(go_simp;go_at_call 80;(with_reducible refine(n6.o _ _ g6.o s7.o).mono ?_);rintro e w6 ⟨u6,y3,rfl,l6,p7⟩;have s8:=ay (l6.rs.iss (bJ _ _));have s9:=ay (bt g6.o p7);obtain⟨a6,c6,e6⟩:=l6.sl;subst e6;clear l6)
   |(go_simp;go_at_call 79;(with_reducible refine(n7.o _ _ s8.o).mono ?_);rintro e w7 ⟨c7,rfl,h6,p8⟩)
   |fail)
  all_goals
   go_wp2_with fail
   go_meet
   exact⟨_,rfl,ay ⟨_,h6,bt s9.o p8,l4.o.below (bt (bt p6 p7) p8)⟩⟩
 case rest=>
  obtain⟨c7,rfl,HT⟩:=hcut;obtain⟨W3,h6,p9,q3⟩:=HT.o;have q4:=ay h6;have b7:=ay p9;have q5:=ay q3;clear HT h6 p9 q3 KV n6 n7 d6 l4;generalize wc=w7 at *;have d0:=(d3.o.below b7.o).c0;have i5:=ay (n8.o w7 b7.o);go_wp2_with fail;refine i5.o.mono ?_;rintro e w8 ⟨v8,rfl,l7,l8⟩;obtain⟨a8,c8,e8⟩:=qg l7;subst e8;have l9:=l8.size;have f9:Hh (Bl w7 (w8.alloc (.cells #[.slice a8 l0 c8,sn,sn] 61))/\KX (w8.alloc (.cells #[.slice a8 l0 c8,sn,sn] 61)) w7.1.size w8.1.size (.slice a8 l0 c8) sn sn [] K [] []):=ay ⟨l8.alloc l9 _,KX.made (by rw[o8.o];exact l7) l9⟩;clear l7 l8 n8 i5 d0 o8;go_upto_region 6 with fail;obtain⟨pk,q6⟩:=Ex w8.1.size;rw[<-q6]at f9 l9 ⊢;generalize w8.alloc (.cells #[.slice a8 l0 c8,sn,sn] 61)=W9 at f9 ⊢;clear q6;have d1:=(d3.o.below (bt b7.o f9.o.1)).c1;have m3:Hh (kpR P I 0=[]/\kpW P wa 0=[]):=ay ⟨rfl,rfl⟩;go_wp2_with fail;clear d1;go_loopw [38] (λt wr=>∃i:Nat,i<=n/\t=ai i/\Hh (∃vR vW us,Bl w7 wr/\KX wr w7.1.size pk (.slice a8 l0 c8) vR vW us K (kpR P I i) (kpW P wa i))) (λt _=>n-(intOf t).toNat);exact⟨0,nZ _,rfl,ay ⟨_,_,_,f9.o.1,by rw[m3.o.1,m3.o.2];exact f9.o.2⟩⟩;clear f9 m3;obtain⟨i,y4,rfl,HT⟩:=hrel;obtain⟨vR,vW,us,hB,hK⟩:=HT.o;have HB:=ay hB;have HK:=ay hK;clear HT hB hK;by_cases h7:i<n
  ·have i1:(i:Int)<(n:Int):=Oo;obtain⟨b,o,u,ea,c1,hu⟩:=o6.o wr (bt h5.o (bt b7.o HB.o)) i h7;subst ea;have HU:=ay hu;have i6:=ay (n9.o wr u _ i h7 hu (q5.o.below HB.o));have q7:Hh (∀W,IS W u (I.getD i [])->Cl 81 #[u] W λe w'=>∃v,e=.returned v/\w'.ownsRow W.1.size 3 1 v (I.getD i []).length ((I.getD i []).map ai)/\Bl W w'):=ay λW hu=>o3.o W u i h7 hu;have t0:Hh (∀W v,Bl w7 W->IS W v (qI K sh (I.getD i []))->Cl 82 #[.pointer c7,v] W λe w'=>e=.returned (.bool (P i))/\Bl W w'):=ay λW v hW hv=>KH.o W3 w7 W c7 v i q4.o hW hv;have q8:Hh (P i=true->kpR P I (i+1)=kpR P I i++[I.getD i []]/\kpW P wa (i+1)=kpW P wa i++[wa.getD i 0]):=ay λh=>⟨qBQ I h,qFw wa h⟩;have q9:Hh (P i=false->kpR P I (i+1)=kpR P I i/\kpW P wa (i+1)=kpW P wa i):=ay λh=>⟨Ks I h,qEd wa h⟩;have y5:=qFx P I i;have z3:=qFy P wa i;obtain⟨au,cu,rfl,-⟩:=hu;generalize I.getD i []=row at *;generalize hlr:row.length=lr at *;have t1:=ay hlr;clear hlr;generalize qI K sh row=prow at *;go_wp2_with fail;refine i6.o.mono ?_;rintro e t2 ⟨v10,rfl,g7,d9⟩;have e3:=ay (bt HB.o d9);have g8:=ay (HK.o.below d9);have i7:=ay (HU.o.below d9);have b8:=ay (t0.o t2 v10 e3.o (qS g7));obtain⟨z4,z5,t3⟩:=qg g7;subst t3;clear i6 g7 d9 HB HK HU c1;cases hP:P i
   ·rw[hP]at b8;have HN:=ay (q9.o hP);clear hP;go_wp2_with fail;refine b8.o.mono ?_;rintro e h8 ⟨rfl,a3⟩;have HF:Hh (∃vR vW us,Bl w7 h8/\KX h8 w7.1.size pk (.slice a8 l0 c8) vR vW us K (kpR P I (i+1)) (kpW P wa (i+1))):=ay ⟨_,_,_,bt e3.o a3,by rw[HN.o.1,HN.o.2];exact g8.o.below a3⟩;clear a3 b8;go_wp2_with fail;go_roundw;exact⟨i+1,Oo,Gg,HF⟩;exact Im
   rw[hP]at b8;have HN:=ay (q8.o hP);clear hP q9 q8;go_upto_region 10 with (first|(go_at_call 82;refine b8.o.mono ?_;rintro e h8 ⟨rfl,a3⟩)|fail);have g9:=ay (bt e3.o a3);have b9:=ay (g8.o.below a3);have i8:=ay (i7.o.below a3);clear a3 b8 e3 g8 i7;go_cut [38] from 38 to 65 (λt wx=>t=ai i/\Hh (∃vR us,Bl w7 wx/\KX wx w7.1.size pk (.slice a8 l0 c8) vR vW us K (kpR P I (i+1)) (kpW P wa i)))
   case first=>
    have c1:=b9.o.tx.c1;go_region_law (first
     |(refine step_append_lies _ Fl _ _ 23 Fl w7.1.size 24 iS sn 1 24 Tryz.underlying23 hj r8 r9 s1 rfl Dd vR _ us Fl (M.o.tq.rq.own.alloc _) (az m4.1.size 0) 1 1 [.slice a12 lr r3] Fl rfl (qH _ _ _) (λu hu=>by simp at hu;subst hu;rfl) Dd Um Oo (by have:=e7.o.size;simp;omega) _ rfl ?_;intro g13 v9 z6 h9 O t4 t5;have z7:=(M.o.tx.grown M.o.tq.rq.own Dd O).c1;have z8:=(M.o.tx.grown M.o.tq.rq.own Dd O).free 1)
     |(go_simp;go_at_call 81;(with_reducible refine(q7.o _ (i8.o.below (bJ _ _).drew)).mono ?_);rintro e m4 ⟨t6,rfl,h3,r4⟩;have i9:=jx r4;have e7:=ay (bt g9.o i9);have M:=ay (b9.o.below i9);have e9:Hh (m4.ownsRow h8.1.size 3 1 t6 lr (row.map ai)):=ay h3;have z9:=M.o.tx.c1;have A0:∀ob,(m4.alloc ob).cell? (az pk 1)=some vR:=λob=>(M.o.below ((bJ _ _).alloc (nR _) ob)).tx.c1;obtain⟨a12,r3,t7⟩:=qg h3;subst t7;clear h3 r4)
     |fail)
    all_goals
     go_wp2_with fail
     go_meet
     have hN:=M.o.pushR (u:=.slice a12 lr r3) (l:=row) (qF (by rw[t1.o];exact e9.o) g9.o.size) (λq hq g h1 h2=>by
      have e1:=((b9.o.tq.rq.each q hq).lt g h1).2;have e2:=(e9.o.lt g h2).1;omega) (λg h1 h2=>by
      have e1:=(e9.o.lt g h1).1;have e2:=(b9.o.tq.o0.lt g h2).2;omega) (λg h1 h2=>by
      have e1:=(e9.o.lt g h1).1;have e2:=(b9.o.tq.o2.lt g h2).2;omega) h9 O
     rw[<-HN.o.1]at hN
     exact⟨rfl,ay ⟨_,_,((e7.o.alloc e7.o.size _).grown O (by have:=e7.o.size;simp;omega) (λg hg=>(M.o.tq.rq.own.lt g hg).1)).setCell M.o.lo _,hN⟩⟩
   case rest=>
    obtain⟨rfl,HT⟩:=hcut;obtain⟨A1,A2,j0,j1⟩:=HT.o;have c9:=ay j0;have f7:=ay j1;clear HT j0 j1 g9 b9 i8;generalize wc=w14 at *;obtain⟨bw,ow,ew,cw⟩:=o7.o w14 (bt h5.o (bt b7.o c9.o)) i h7;subst ew;generalize wa.getD i 0=x at *;go_upto_region 11 with fail;have c2:=f7.o.tx.c2;have ca:=(d3.o.below (bt b7.o c9.o)).c2;have A3:∀ob,(w14.alloc ob).cell? (az pk 2)=some vW:=λob=>(f7.o.below ((bJ _ _).alloc (nR _) ob)).tx.c2;have d7:=ay (f7.o.below (bJ w14.1.size w14).drew);go_region_law (first
     |(refine step_append_lies _ Fl _ _ 24 Fl w7.1.size 3 i0 (ai 0) 1 8 Tryz.underlying24 hi r5 r6 r7 rfl Dd vW _ ((kpW P wa i).map ai) Fl (d7.o.tq.o2.alloc _) (az _ 0) 1 1 [ai x] Fl rfl (qH _ _ _) (λu hu=>by simp at hu;subst hu;rfl) Dd Um Oo (by have:=c9.o.size;simp;omega) _ rfl ?_;intro g15 w9 A4 i2 U m5 t8;have A5:=(d7.o.tx.grown d7.o.tq.o2 Dd U).c2;have A6:=(d7.o.tx.grown d7.o.tq.o2 Dd U).free 2)
     |fail)
    all_goals
     go_wp2_with fail
     go_roundw
     case rel=>
      have hN:=d7.o.pushW i2 U (λg hg=>by
       simp only[Value.ownBlock,Option.some.injEq]at hg;subst hg;rcases m5 with h|h;exact Or.inl h;exact Or.inr (by rw[h];simp))
      rw[<-HN.o.2]at hN
      exact⟨i+1,Oo,Gg,ay ⟨_,_,_,(((c9.o.drew).alloc (by have:=c9.o.size;simp;omega) _).grown U (by have:=c9.o.size;simp;omega) (λg hg=>(d7.o.tq.o2.lt g hg).1)).setCell f7.o.lo _,hN⟩⟩
     case measure=>simp[intOf];omega
  obtain rfl:i=n:=Oo;have i1:¬((i:Int)<(i:Int)):=Oo;have d8:=ay (s2.o.below (bt b7.o HB.o));have m6:=ay HK.o.tx;have t9:=ay (bt h5.o (bt b7.o HB.o));have v6:=ay (HK.o.tq.base (bM h5.o.size b7.o.size));obtain⟨aR,kR,eR⟩:=qg HK.o.tq.rq.own;obtain⟨aW,kW,eW⟩:=qg HK.o.tq.o2;subst eR eW;clear HK HB o6 o7 n9 KH o3 q5 q4 b7;generalize (kpR P I i).length=lR at *;generalize (kpW P wa i).length=lW at *;have d0:=m6.o.c0;have d1:=m6.o.c1;have d2:=m6.o.c2;have f0:=d8.o.free 0;have f1:=d8.o.free 1;have f2:=d8.o.free 2;have r0:=d8.o.c0;have r1:=d8.o.c1;have r2:=d8.o.c2;have m7:=ay d8.o.typ;go_wp2_with fail;refine bodyPost_ret (v:=.agg #[.slice a8 l0 c8,.slice aR lR kR,.slice aW lW kW]) (by simp[results,Tryz.results57,go_sem,r0,r1,r2]) rfl ⟨_,_,_,rfl,⟨us,?_⟩,((t9.o.setCell (Nat.le_add_right _ 2) _).setCell (Nat.le_add_right _ 2) _).setCell (Nat.le_add_right _ 2) _⟩;exact((v6.o.set m7.o).set (qX m7.o)).set (qX (qX m7.o))
theorem Ka:∀{rl:List TbR} {q:Nat} {t:TbR},q<rl.length->(((rl.flatMap tcs).set (q*3) t.v0).set (q*3+1) t.v1).set (q*3+2) t.v2=(rl.set q t).flatMap tcs
 |r::rl,0,t,_=>by
  show((([r.v0,r.v1,r.v2]++rl.flatMap tcs).set 0 t.v0).set 1 t.v1).set 2 t.v2=[t.v0,t.v1,t.v2]++rl.flatMap tcs;rfl
 |r::rl,q+1,t,h=>by
  have I:=Ka (rl:=rl) (q:=q) (t:=t) (by simpa using h);show((([r.v0,r.v1,r.v2]++rl.flatMap tcs).set ((q+1)*3) t.v0).set ((q+1)*3+1) t.v1).set ((q+1)*3+2) t.v2=[r.v0,r.v1,r.v2]++(rl.set q t).flatMap tcs;rw[<-I,show(q+1)*3=q*3+1+1+1 by omega];rfl
theorem TBs.put(h:TBs W0 B (.slice (some (az g 0)) n c) rl)(hb:Bl W0 W)(hB:B<=W0.1.size)(V:TWr W W0.1.size t)(hq:q<rl.length):
 TBs (((W.setCell (az g (q*3)) t.v0).setCell (az g (q*3+1)) t.v1).setCell (az g (q*3+2)) t.v2) B (.slice (some (az g 0)) n c) (rl.set q t):=by
 obtain⟨a,cap,e,-⟩:=XZ tcs (λ_=>rfl) qY h.own;have hn:n=rl.length:=by simp only[Value.slice.injEq]at e;exact e.2.1
 subst hn;have ho:=qB h.own hb;have O:=qN ho (g:=g) rfl;have K:=qX (o:=q*3) (v:=t.v0) O;have U:=qX (o:=q*3+1) (v:=t.v1) K;have hk:∀{s:TbR} {B':Nat},TWr W B' s->TWr (((W.setCell (az g (q*3)) t.v0).setCell (az g (q*3+1)) t.v1).setCell (az g (q*3+2)) t.v2) B' s:=λhs=>
  TWr.setX (TWr.setX (TWr.setX hs O Dd Dd) K Dd Dd) U Dd Dd
 refine⟨?_,λs hs=>?_,?_⟩;rw[List.length_set,<-Ka hq];exact((((ho.stored (q*3) t.v0).1).stored (q*3+1) t.v1).1.stored (q*3+2) t.v2).1
 ·rcases List.mem_or_eq_of_mem_set hs with hs|rfl;exact hk (TW.below (h.each s hs) hb);exact hk (TW.base V hB)
 have old:∀s∈rl,∀x∈bls s,∀y∈bls t,ApW x y/\ApW y x:=λs hs x M y I=>by
  refine⟨λk h1 h2=>?_,λk h1 h2=>?_⟩;have h3:=((h.each s hs).lt M h1).2;have h4:=(V.lt I h2).1;omega;have h3:=((h.each s hs).lt M h2).2;have h4:=(V.lt I h1).1;omega
 refine List.pairwise_iff_getElem.2 λi j hi hj a3 x M y I=>?_;rw[List.length_set]at hi hj;rw[List.getElem_set]at M I;split at M
 ·split at I;omega;exact(old _ (gM hj) y I x M).2
 split at I;exact(old _ (gM hi) x M y I).1;exact List.pairwise_iff_getElem.1 h.ap i j hi hj a3 x M y I
structure RdW(w0:World)(p:Nat)(x0 x1 x2:Value)(prs:LI)(T:List TbV)(W:World):Prop where
 tb:∃rl,TBs W w0.1.size x0 rl/\rl.map tvB=T
 bx:Bx3 69 W p x0 x1 x2
 pa:W.ownsRow w0.1.size 3 1 x1 prs.length (prs.map ai)
 bel:Bl w0 W
theorem RdW.below{p:Nat}{x0:Value}(h:RdW w0 p x0 x1 x2 prs T W)(hb:Bl W W'):RdW w0 p x0 x1 x2 prs T W':=by
 obtain⟨⟨rl,I,K⟩,M,O,U⟩:=h;exact⟨⟨rl,I.below hb,K⟩,M.below hb,qB O hb,bt U hb⟩
theorem qES:(rl.set q t).map tvB=(rl.map tvB).set q (tvB t):=List.map_set
theorem RdW.cells{p:Nat}(h:RdW w0 p (.slice (some (az g 0)) n c) x1 x2 prs T W){j:Nat}(K:j<T.length):
 ∃(a0:Option Addr) (m0 c0:Nat) (a1:Option Addr) (m1 c1:Nat) (a2:Option Addr) (m2 c2:Nat),(∀W',Bl W W'->W'.cell? (az g (j*3))=some (.slice a0 m0 c0)/\W'.cell? (az g (j*3+1))=some (.slice a1 m1 c1)/\W'.cell? (az g (j*3+2))=some (.slice a2 m2 c2)/\IT W' (.slice a0 m0 c0) (.slice a1 m1 c1) (.slice a2 m2 c2) (T.getD j qA).vs (T.getD j qA).rows (T.getD j qA).ws):=by
 obtain⟨⟨rl,h1,rfl⟩,-,-,-⟩:=h;rw[lM]at K;obtain⟨a,cap,e,M⟩:=XZ tcs (λ_=>rfl) qY h1.own;have U:TWr W w0.1.size (rl.getD j qY):=h1.each _ (yC K);have eg:(rl.map tvB).getD j qA=tvB (rl.getD j qY):=by
  rw[gD,gD,bK,gE K];rfl
 rw[eg];rcases M with h0|⟨g',ea,-,M⟩;omega;simp only[Value.slice.injEq]at e;obtain⟨O,-,-⟩:=e;rw[ea]at O;simp only[Option.some.injEq,Addr.mk.injEq,and_true]at O;subst O;obtain⟨q0,z0,e0⟩:=qG U.o0;obtain⟨q1,z1,O⟩:=qG U.rq.own;obtain⟨q2,z2,e2⟩:=qG U.o2;refine⟨q0,(rl.getD j qY).vs.length,z0,q1,(rl.getD j qY).rows.length,z1,q2,(rl.getD j qY).ws.length,z2,λW' V=>?_⟩;rw[<-e0,<-O,<-e2];have I:=TW.below U V;exact⟨qJ V (M j 0 K Oo),qJ V (M j 1 K Oo),qJ V (M j 2 K Oo),qS I.o0,I.rq.rs.iss (bJ _ _),qS I.o2⟩
theorem RdW.put{p:Nat}(h:RdW w0 p (.slice (some (az g 0)) n c) x1 x2 prs T W0)(hb:Bl W0 W)(ht:TWr W W0.1.size t)(hq:q<T.length):
 RdW w0 p (.slice (some (az g 0)) n c) x1 x2 prs (T.set q (tvB t)) (((W.setCell (az g (q*3)) t.v0).setCell (az g (q*3+1)) t.v1).setCell (az g (q*3+2)) t.v2):=by
 obtain⟨⟨rl,h1,rfl⟩,h2,h3,h4⟩:=h;rw[lM]at hq;have ho:=qB h1.own hb;have K:=qN ho (g:=g) rfl;have I:=qX (o:=q*3) (v:=t.v0) K;have U:=qX (o:=q*3+1) (v:=t.v1) I;have M:=(ho.lt g rfl).1;have O:p≠g:=λe=>by
  obtain⟨cur,V⟩:=K;have:=(h2.below hb).blk;rw[e,V]at this;simp only[Option.some.injEq,Obj.cells.injEq]at this;exact absurd this.2.1 Dd
 refine⟨⟨rl.set q t,h1.put hb h4.size ht hq,qES⟩,⟨?_⟩,qL (qL (qL (qB h3 hb) K Dd) I Dd) U Dd,(((bt h4 hb).setCell M _).setCell M _).setCell M _⟩;rw[bD _ _ _ _ (by exact O),bD _ _ _ _ (by exact O),bD _ _ _ _ (by exact O)];exact(h2.below hb).blk
open Go.Shelf
attribute [local go_sem] Oper.semAt_some
theorem VD(w:World)(a:Option Addr)(n c:Nat):
 Cl 58 #[.slice a n c] w λe w'=>e=.returned (.func (.func 83) #[] #[.pointer (some (az w.1.size 0))])/\w'=w.alloc (.cells #[.slice a n c] 24):=by
 go_enter Tryz.func58,Tryz.ntmps58;go_wp2;go_ret;exact⟨rfl,rfl⟩
structure KpG(B g:Nat)(X Y:World):Prop where
 size:X.1.size<=Y.1.size
 block:∀k,k<B->k≠g->Y.1[k]?=X.1[k]?
theorem KpG.trans{Z:World}(h:KpG B g X Y)(k:KpG B g Y Z):KpG B g X Z:=⟨bM h.size k.size,λi I K=>(k.block i I K).trans (h.block i I K)⟩
theorem KpG.of(h:Below B X Y):KpG B g X Y:=⟨h.size,λk I _=>h.block k I⟩
def rvL(n j:Nat):List Nat:=((List.range n).drop j).reverse
theorem qFh(n:Nat):rvL n n=[]:=by unfold rvL;rw[List.drop_eq_nil_of_le Ss];rfl
theorem qBI:(rvL n j).length=n-j:=by unfold rvL;rw[List.length_reverse,List.length_drop,List.length_range]
theorem qET(h:j<n):rvL n j=rvL n (j+1)++[j]:=by
 unfold rvL;rw[List.drop_eq_getElem_cons (by simpa using h),List.reverse_cons,List.getElem_range]
theorem YN(w:World)(U g M c:Nat)(ls:LI)(hb:w.1[U]?=some (.cells #[.slice (some (az M 0)) ls.length c] 24 (0,0)))(a9:U≠g)(b0:M<w.1.size)(b1:M≠g)(h:∀j,j<ls.length->w.cell? (az M j)=some (ai (ls.getD j 0)))(hl:ls.length<=1000):
 Gives Tryz.prog 83 #[.pointer (some (az U 0))] (λx:Nat×Int=>#[ai (x.1:Int),ai x.2]) (λ_=>KpG w.1.size g) (λ_ _ _=>True) (λpre x b _ _=>b=(x,ls.getD x 0)/\x+pre.length+1=ls.length) (rvL ls.length 0) w:=by
 intro l J Jx W V b9 c7 hJ c8 hY h0;show Calls _ _ #[.func (.yield l) #[] #[],.pointer (some (az U 0))] W _;have HS:Hh (∀W',KpG w.1.size g w W'->W'.cell? (az U 0)=some (.slice (some (az M 0)) ls.length c)):=ay λW' O=>by
  rw[cell_of_row _ _ _ _ _ _ ((O.block _ (qW hb) a9).trans hb)];rfl
 have HC:Hh (∀W',KpG w.1.size g w W'->∀j,j<ls.length->W'.cell? (az M j)=some (ai (ls.getD j 0))):=ay λW' O j hj=>
  (bF (w:=w) (a:=(az M j)) (O.block M b0 b1)).trans (h j hj)
 have HT:Hh (∀j,j<ls.length->rvL ls.length j=rvL ls.length (j+1)++[j]):=ay λj hj=>qET hj;have a3:Hh (∀j,j<=ls.length->(rvL ls.length j).length=ls.length-j):=ay λj _=>qBI;have I:=ay hY;have HJ:=ay hJ;have a4:=ay (KpG.of (g:=g) V);have a5:Hh (J (rvL ls.length ls.length) W):=ay (by rw[qFh];exact h0);clear hb h hY hJ h0 V;obtain⟨n,hn⟩:=Ex ls.length;rw[<-hn]at hl HC HT HS I a3 a5 ⊢;clear hn;have c0:=HS.o W a4.o;go_enter Tryz.func83,Tryz.ntmps83;go_wp2_with fail;clear c0;go_loopw [3] (λt wr=>∃(j:Nat) (z:Int),j<=n/\t=ai z/\z+1=(j:Int)/\Hh (∃X,J (rvL n j) X/\KT W.1.size X wr/\KpG w.1.size g w wr)) (λt _=>(intOf t+1).toNat);exact⟨n,_,nR _,rfl,Oo,ay ⟨W,a5.o,KT.refl _ _,a4.o⟩⟩;obtain⟨j,z,b7,rfl,hz,K⟩:=hrel;cases j with
 |zero=>
  obtain rfl:z=-1:=Oo;have HF:Hh (J (rvL n 0) wr):=ay (by
   obtain⟨X,h1,h2,h3⟩:=K.o;exact HJ.o _ _ _ h1 h2)
  clear K HC I hz;go_wp2_with fail;go_end0
  exact⟨⟨_,rfl⟩,Or.inl HF.o⟩
 |succ k=>
  obtain rfl:z=(k:Int):=Oo;clear hz;have i1:(0:Int)<=(k:Int):=Oo;have i2:(k:Int)<(n:Int):=Oo;obtain⟨X,h1,h2,h3⟩:=K.o;have c1:=HC.o wr h3 k Oo;have c2:=HS.o wr h3;obtain⟨fn,tmps,assign,body,hy,hR⟩:=I.o (rvL n (k+1)) k (k,ls.getD k 0) X wr h1 h2 ⟨rfl,by rw[a3.o (k+1) b7];omega⟩;have HN:Hh (∀Z,J (rvL n (k+1)++[k]) Z->KpG w.1.size g wr Z->∃X,J (rvL n k) X/\KT W.1.size X Z/\KpG w.1.size g w Z):=ay λZ g1 g2=>⟨Z,by rw[HT.o k Oo];exact g1,KT.refl _ _,h3.trans g2⟩;have HR:=ay hR;clear hR h1 h2 h3 K HC I HS;generalize ls.getD k 0=x at *;refine(wpIn_wide (n:=0)).1 ?_;gi_wp2
  refine⟨rfl,?_⟩;refine HR.o.mono ?_;rintro e w9 (⟨rfl,a6,a7⟩|⟨rfl,a8,-⟩)
  ·have b8:=ay (HN.o w9 a6 a7);clear a6 a7 hy HR HN;gi_wp2
   go_wp2_with fail;go_roundw;exact⟨k,_,Oo,rfl,Oo,b8⟩;simp[intOf]
  clear hy HR HN;gi_wp2
  go_wp2_with fail;refine bodyPost_ret (P:=Tryz.prog) (fn:=Tryz.f83) (R:=λe W'=>(∃v,e=.returned v)/\(J (rvL n 0) W'∨Jx W')) (results_none rfl _ _ _) rfl ?_;exact⟨⟨_,rfl⟩,Or.inr a8⟩
def whJ(k:Int)(tl:List TbV)(bs:LL)(ps hs:LI)(ws:List (Int×Int))(x:Int×Int):Bool:=zM k (tl.map TbV.vs) bs ps hs ws x&&decide (0<=qw tl (upR k.toNat))
theorem YM(w:World)(vt v0 v1 v2 v3:Value)(k x y:Int)(tl:List TbV)(bs:LL)(ps hs:LI)(ws:List (Int×Int))(h:ITs w vt tl)(hl:tl.length<=1048576)(b0:∀t∈tl,TvS t)(hp:IPl w v0 v1 v2 v3 bs ps hs ws)(b9:qT bs)(c7:ps.length<=1099511627776):
 Cl 29 #[ai k,vt,.agg #[v0,v1,v2,v3,ai x,ai y]] w λe w'=>∃a n c,e=.returned (.tuple #[.slice a n c,.bool (whJ k tl bs ps hs ws (x,y))])/\Bl w w':=by
 have d6:Tryz.prog.follows .mixedOrders=true:=Kl;have a8:∀W:World,Bl W W.drew:=λW=>(bJ _ _).drew;have KE:Hh (∀W,Bl w W->Cl 50 #[vt] W λe w'=>∃v,e=.returned v/\ISS w' v (tl.map TbV.vs)/\Bl W w'):=ay λW hW=>ug W vt tl (h.below hW) hl;have KP:Hh (∀W v,Bl w W->ISS W v (tl.map TbV.vs)->Cl 49 #[ai k,v,.agg #[v0,v1,v2,v3,ai x,ai y]] W λe w'=>e=.returned (.bool (zM k (tl.map TbV.vs) bs ps hs ws (x,y)))/\Bl W w'):=ay λW v hW hv=>Qv W v0 v1 v2 v3 v k x y _ bs ps hs ws hv (Yg hl b0) (hp.below hW).b b9 (hp.below hW).p c7 (hp.below hW).h (hp.below hW).d;have HK:Hh (zM k (tl.map TbV.vs) bs ps hs ws (x,y)=true->0<=k/\k<=6):=ay λhr=>by
  unfold zM at hr;rw[bV,bV,bV,bV,bV]at hr;have:=yR hr.1.1.1.1.1;exact⟨this.1,this.2.1⟩
 have KV:Hh (∀W,0<=k->k<=6->Cl 52 #[ai k] W λe w'=>∃a c,e=.returned (.slice a k.toNat c)/\IS w' (.slice a k.toNat c) (upR k.toNat)/\Bl W w'):=ay λW h1 h2=>by
  have:=QB W k.toNat Oo;rw[show((k.toNat:Nat):Int)=k by omega]at this;refine this.mono ?_;rintro e w' ⟨v,rfl,ho,hb⟩;have hi:=qS ho;obtain⟨a,c,e0⟩:=qG ho;rw[xS]at e0;subst e0;exact⟨a,c,rfl,hi,hb⟩
 have KJ:Hh (∀W vo,Bl w W->k<=6->IS W vo (upR k.toNat)->Cl 51 #[vt,vo] W λe w'=>∃a n c,e=.returned (.tuple #[.slice a n c,ai (qw tl (upR k.toNat))])/\Bl W w'):=ay λW vo hW h6 ho=>by
  refine(kh W vt vo tl (upR k.toNat) (h.below hW) ho hl (by rw[xS];omega) b0).mono ?_;rintro e w' ⟨v,us,rfl,hQ,hb⟩;obtain⟨a,c,e0⟩:=hQ.sl;subst e0;exact⟨_,_,_,rfl,hb⟩
 have HW:Hh (whJ k tl bs ps hs ws (x,y)=(zM k (tl.map TbV.vs) bs ps hs ws (x,y)&&decide (0<=qw tl (upR k.toNat)))):=ay rfl;obtain⟨a0,k0,rfl,-⟩:=hp.b;obtain⟨a1,k1,rfl,-⟩:=hp.p;obtain⟨a2,k2,rfl,-⟩:=hp.h;obtain⟨a3,k3,rfl,-⟩:=hp.d;clear hp b9 b0 c7;obtain⟨d7,ct,rfl,-⟩:=h;generalize zM k (tl.map TbV.vs) bs ps hs ws (x,y)=PL at *;generalize whJ k tl bs ps hs ws (x,y)=WH at *;generalize qw tl (upR k.toNat)=VJ at *;generalize tl.length=n at *;generalize bs.length=nb at *;generalize ps.length=np at *;generalize hs.length=nh at *;generalize ws.length=nw at *;obtain⟨V,O⟩:=Ex (w.alloc (.cells #[.slice a0 nb k0,.slice a1 np k1,.slice a2 nh k2,.slice a3 nw k3,ai x,ai y] 38));have c8:Hh (PX 38 V w.1.size (.slice a0 nb k0) (.slice a1 np k1) (.slice a2 nh k2) (.slice a3 nw k3) x y):=ay (by rw[O];exact PX.made _ _ _ _ _ _ _ _);have I:Hh (Bl w V):=ay (by rw[O];exact(bJ _ _).alloc (nR _) _);have a9:Hh (∀W,Bl V W->W.cell? (az w.1.size 0)=some (.slice a0 nb k0)/\W.cell? (az w.1.size 1)=some (.slice a1 np k1)/\W.cell? (az w.1.size 2)=some (.slice a2 nh k2)/\W.cell? (az w.1.size 3)=some (.slice a3 nw k3)/\W.cell? (az w.1.size 4)=some (ai x)/\W.cell? (az w.1.size 5)=some (ai y)):=ay λW hW=>(c8.o.below hW).six;obtain⟨s0,s1,s2,s3,s4,s5⟩:=a9.o V.drew (a8 _);have b1:=ay (KE.o V.drew (bt I.o (a8 _)));clear KE c8;cases PL with
 |false=>
  rw[Bool.false_and]at HW;go_enter Tryz.func29,Tryz.ntmps29;go_upto_region 1 with fail;rw[<-O];clear O;go_region_law (first
   |(go_simp;go_at_call 50;refine b1.o.mono ?_;rintro e w3 ⟨v3,rfl,b7,a4⟩;have M:Bl V w3:=bt (a8 _) a4;obtain⟨t0,t1,t2,t3,t4,t5⟩:=a9.o w3 M)
   |(go_simp;go_at_call 49;refine(KP.o w3 v3 (bt I.o M) b7).mono ?_;rintro e w4 ⟨rfl,a7⟩;have U:Bl V w4:=bt M a7)
   |fail)
  all_goals go_wp2_with fail
  all_goals go_ret2
  all_goals rw[HW.o]
  all_goals first|exact⟨⟨_,_,_,rfl⟩,bt I.o U⟩|exact⟨_,_,_,rfl,bt I.o U⟩|exact⟨_,_,⟨_,rfl⟩,bt I.o U⟩|exact⟨_,⟨_,_,rfl⟩,bt I.o U⟩
 |true=>
  rw[Bool.true_and]at HW;obtain⟨d5,c9⟩:=HK.o rfl;go_enter Tryz.func29,Tryz.ntmps29;go_upto_region 1 with fail;rw[<-O];clear O;go_cut [15] from 10 to 14 (λv wx=>v=.bool false/\Hh (Bl V wx))
  case first=>
   go_region_law (first
    |(go_simp;go_at_call 50;refine b1.o.mono ?_;rintro e w3 ⟨v3,rfl,b7,a4⟩;have M:Bl V w3:=bt (a8 _) a4;obtain⟨t0,t1,t2,t3,t4,t5⟩:=a9.o w3 M)
    |(go_simp;go_at_call 49;refine(KP.o w3 v3 (bt I.o M) b7).mono ?_;rintro e w4 ⟨rfl,a7⟩;have U:Bl V w4:=bt M a7)
    |fail)
   all_goals(go_wp2_with fail;go_meet)
   all_goals exact⟨rfl,ay U⟩
  case rest=>
  obtain⟨rfl,d0⟩:=hcut;generalize wc=w4 at *;have d1:=ay (bt I.o d0.o);have d2:=ay (KV.o w4 d5 c9);clear b1 KP d0 s0 s1 s2 s3 s4 s5 a9 KV HK;go_upto_region 4 with (first|(go_at_call 52;refine d2.o.mono ?_;rintro e w5 ⟨a5,c5,rfl,d3,b8⟩)|(go_at_call 51;refine(KJ.o w5 _ (bt d1.o b8) c9 d3).mono ?_;rintro e w6 ⟨a6,n6,c6,rfl,d4⟩)|fail);have K:=ay (bt (bt d1.o b8) d4);clear b8 d4 d3 KJ d2;by_cases hv:0<=VJ
  ·rw[decide_eq_true hv]at HW;go_wp2_with fail;go_ret2;rw[HW.o];first|exact⟨⟨_,_,_,rfl⟩,K.o⟩|exact⟨_,_,_,rfl,K.o⟩|exact⟨_,_,⟨_,rfl⟩,K.o⟩|exact⟨_,⟨_,_,rfl⟩,K.o⟩
  rw[decide_eq_false hv]at HW;go_wp2_with fail;go_ret2;rw[HW.o];first|exact⟨⟨_,_,_,rfl⟩,K.o⟩|exact⟨_,_,_,rfl,K.o⟩|exact⟨_,_,⟨_,rfl⟩,K.o⟩|exact⟨_,⟨_,_,rfl⟩,K.o⟩
end Go.Proofs.YtcnfapnfmnolbaaGreat
