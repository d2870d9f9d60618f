import Derived.Deep.Light
import Derived.Test.YtnpgdnaeghilhaaGreatEq20
set_option maxHeartbeats 40000000
set_option maxRecDepth 1000000
namespace Go.Proofs.YtnpgdnaeghilhaaGreat
open Go.Proofs.Tryz Go.RowKit Go.Maps
def z6:LI:=[0,0,0,0,0,0]
def MsE(c:Ch)(w w':World)(v:Value):Prop:=((v=.map none/\∀a,¬c.Q z6 a)\/∃b ks D,v=.map (some b)/\Wm qP w' b ks D/\∀a,a∈ks↔c.Q z6 a)/\Bl w w'
theorem V6 w{x0 x1 x2 vt vh I tl ps hl hd ch}(hb:ITs w x0 I)(hp:IS w x1 ps)(hh:IS w x2 hl)(ht:ITs w vt tl)(k5:IS w vh hd)(H:MsH I ps hd ch)(hn0:0<I.length)(hlen:hl.length=tl.length)(k6:tl.length<=1000)(k7:∀t∈tl,qW t=true)(k8:∀t∈tl,Wf t.rows)(l0:hd.length<=1000):
 Cl 70 #[.agg #[x0,x1,x2],vt,vh,rgV] w λe w'=>∃v,e=.returned v/\MsE (ch (I.length-1)) w w' v:=by
 obtain⟨iM,hi,l3,l4,l5⟩:=info_parts Tryz.infoMg;have s7:Tryz.prog.follows .mixedOrders=true:=Kl;have s9:=@run_makeMap Tryz.prog;have HH:=ay H;have HT:=ay hb;have h9:=ay hp;have p3:=ay hh;have p4:=ay ht;have p5:=ay k5;have p6:=ay k7;have p7:=ay k8;obtain⟨a0,k0,rfl,-⟩:=hb;obtain⟨a1,k1,rfl,-⟩:=hp;obtain⟨a2,k2,rfl,-⟩:=hh;obtain⟨a3,k3,rfl,-⟩:=ht;obtain⟨a4,k4,rfl,-⟩:=k5;have l6:=H.few;have c8:=H.len;clear H k7 k8;obtain⟨n,hn⟩:=Ex I.length;have HN:=ay hn;rw[<-hn]at hn0 l6 c8 HT;rw[c8]at h9;have l7:=ay hlen;have e6:=ay c8;have p8:=ay k6;have p9:=ay l0;rw[c8];clear c8 hlen k6 l0;generalize hl':hl.length=nh at *;have q4:=ay hl';clear hl';generalize ht':tl.length=nt at *;have l8:=ay ht';clear ht';obtain⟨W1,e7⟩:=Ex (w.alloc (.cells #[.slice a0 n k0,.slice a1 n k1,.slice a2 nh k2] 93));have i0:Hh (Bx3 93 W1 w.1.size (.slice a0 n k0) (.slice a1 n k1) (.slice a2 nh k2)):=ay (by rw[e7];exact⟨dZ _ _⟩);have m6:Hh (Bl w W1):=ay (by rw[e7];exact(bJ _ _).alloc (nR _) _);rw[<-hn];clear hn;go_enter func70,ntmps70;go_upto_region 1 with fail;rw[<-e7];clear e7;have t0:=i0.o.c0;go_upto_region 2 with (at_make;refine wpList_make_own _ rfl _ _ 142 rfl W1.1.size 146 iM (.agg #[.nilIface,sn,sn,.map none]) 4 underlying142 hi l3 l4 _ _ _ n rfl rfl rfl ?b2 ?b3 (nR _) ?_)
 case b2=>rw[l5];omega
 case b3=>unfold maxLen;omega
 intro w0 c9 a8;have e8:Hh (Bl W1 w0/\Snt W1.1.size w0 (sZ W1.1.size 0 0 n) []):=ay ⟨(bJ _ _).grown a8 (nR _) (λj hj=>by cases hj),⟨c9,λe he=>by cases he⟩⟩;clear c9 a8 t0;have t0:=(i0.o.below e8.o.1).c0;go_wp2_with fail;clear t0;go_loopw [9,21] (λu t wr=>∃(i:Nat) (vs:Value),i<=n/\t=ai i/\vs=u/\Hh (∃es:List Mg,es.length=i/\(∀j,j<i->(es.getD j zZ).ch=ch j)/\Snt W1.1.size wr vs es/\Bl W1 wr)) (λ_ t _=>n-(intOf t).toNat);exact⟨0,_,nZ _,rfl,rfl,ay ⟨[],rfl,λj hj=>Oo,e8.o.2,e8.o.1⟩⟩;clear e8;obtain⟨i,vs,t2,rfl,rfl,HE⟩:=hrel;obtain⟨es,i3,m7,m8,m9⟩:=HE.o;have a7:=ay i3;have i4:=ay m7;have d3:=ay m8;have b9:=ay m9;clear HE i3 m7 m8 m9;by_cases n4:i<n
 .have i1:(i:Int)<n:=Oo;have hib:i<I.length:=by rw[<-HN.o];exact n4
  have f7:Hh (Bl w wr):=ay (bt m6.o b9.o);obtain⟨q,n5,i5,n6⟩:=HH.o.par i hib;obtain⟨t3,t4,e0,d4⟩:=HT.o.below f7.o;rw[<-HN.o]at e0;simp only[Value.slice.injEq]at e0;obtain⟨rfl,-,rfl⟩:=e0;rcases d4 with h0|⟨b,o,rfl,d4⟩;omega;obtain⟨v0,v1,v2,d0,d1,d2,d5⟩:=d4 i hib;obtain⟨u0,u1,u2,g0,-,-,i6⟩:=d4 q i5;rw[<-HN.o]at i5;have i2:(q:Int)<n:=Oo;obtain⟨y0,z0,rfl,-⟩:=id d5.vs;obtain⟨y1,z1,rfl,-⟩:=id d5.rows;obtain⟨y2,z2,rfl,-⟩:=id d5.ws;obtain⟨y3,z3,rfl,-⟩:=id i6.vs;obtain⟨t5,t6,e1,f8⟩:=h9.o.below f7.o;rw[e6.o]at e1;simp only[Value.slice.injEq]at e1;obtain⟨rfl,-,rfl⟩:=e1;rcases f8 with h0|⟨bp,op,rfl,f8⟩;have:=e6.o;omega;have f9:=f8 i (by rw[e6.o];exact n4);rw[n5]at f9;have i7:=ay d5;have q5:=ay i6.vs;have g4:=ay n6;clear d5 i6 n5 n6 f8 d4;have HM:Hh (((ch i).hd=shr (I.getD i qA).vs hd++hds (zg ps ch i) (zg ps ch i).length)/\(qW (I.getD i qA)=true/\Wf (I.getD i qA).rows)/\(∀s a,(ch i).Q s a↔yG (I.getD i qA).vs (ch i).sh (shr (I.getD i qA).vs hd) (I.getD i qA).rows (zg ps ch i) (I.getD i qA).rows.length s a)/\(((ch i).sh.length<=1000/\(ch i).hd.length<=1000)/\(∀y∈(ch i).sh,0<=y/\y<6)/\∀y∈(ch i).hd,0<=y/\y<6)/\((shr (I.getD i qA).vs hd).length<=1000/\∀y∈shr (I.getD i qA).vs hd,0<=y/\y<6)):=ay ⟨HH.o.hed i hib,HH.o.ok i hib,HH.o.q i hib,HH.o.ls i hib,HH.o.ow hib⟩;have n7:Hh (∀(i8 W:World) (S:Nat->Prop) (lo i9 pm be:Nat) (vr vb vsh vo:Value) (nr:Nat) (D0:DataW Unit),Ga i8 W S lo i9 pm be (.slice y0 (I.getD i qA).vs.length z0) (.slice y1 (I.getD i qA).rows.length z1) (.slice y2 (I.getD i qA).ws.length z2) vr vb vsh vo (I.getD i qA).vs (I.getD i qA).rows (I.getD i qA).ws nr (zg ps ch i) (ch i).sh (shr (I.getD i qA).vs hd)->Gs W W S lo pm be vsh vo vo (shr (I.getD i qA).vs hd) [] (λ_ _=>False) [] D0->Cl 94 #[.pointer (some (az pm 0)),.agg #[.slice y0 (I.getD i qA).vs.length z0,.slice y1 (I.getD i qA).rows.length z1,.slice y2 (I.getD i qA).ws.length z2],vr,vb] W λe w'=>e=.returned (.tuple #[])/\∃v es,es.length<=(I.getD i qA).rows.length/\∃D,Gs W w' S lo pm be vsh vo v (shr (I.getD i qA).vs hd) (hds (zg ps ch i) (zg ps ch i).length) (yG (I.getD i qA).vs (ch i).sh (shr (I.getD i qA).vs hd) (I.getD i qA).rows (zg ps ch i) (I.getD i qA).rows.length) es D):=ay λi8 W S lo i9 pm be vr vb vsh vo nr D0 h1 h2=>qAE i8 W S lo i9 pm be vr vb vsh vo nr D0 h1 h2 (HH.o.ow hib) (HH.o.ky i hib) (HH.o.fn i hib) (HH.o.kid hib) (HH.o.tl i hib);have q6:Hh ((I.getD q qA).vs.length<=1000):=ay (by have:=(V7 (qL (HH.o.ok q (by rw[<-HN.o];exact i5)).1).1).2;omega);have q7:Hh ((zg ps ch i).length<=20):=ay (bM (qFm) Oo);have q8:Hh ((yN ps (i:Int) es es.length).map Mg.ch=zg ps ch i):=ay (qHX a7.o i4.o);generalize I.getD i qA=t at *;generalize (I.getD q qA).vs=qv at *;rw[g4.o]at n7;have q9:Hh (qW t=true):=ay HM.o.2.1.1;obtain⟨h6,t7⟩:=V7 (qL q9.o).1;have t8:qv.length<=1000:=q6.o;go_upto_region 5 with fail;have d6:Bl wr (wr.alloc (.cells #[.slice y0 t.vs.length z0,.slice y1 t.rows.length z1,.slice y2 t.ws.length z2] 58)):=(bJ _ _).alloc (nR _) _;have n8:=TX.made wr (.slice y0 t.vs.length z0) (.slice y1 t.rows.length z1) (.slice y2 t.ws.length z2);generalize (wr.alloc (.cells #[.slice y0 t.vs.length z0,.slice y1 t.rows.length z1,.slice y2 t.ws.length z2] 58))=W4 at *;have g5:=i0.o.below (bt b9.o d6);have t0:=g5.c0;have t1:=g5.c1;replace f9:=qF d6 f9;replace g0:=qF d6 g0;clear d0 d1 d2;go_quiet (fail)
  have a6:Hh (Bl W4 (W4.drewN nq)):=ay (below_drewN (bJ _ _) nq);generalize W4.drewN nq=W5 at *;have O:Hh (Bl wr W5):=ay (bt d6 a6.o);have n9:=g5.below a6.o;have o3:=n8.below a6.o;have j0:=ay n9;have d7:=ay o3;clear g5 t0 t1 f9 g0 n8 d6 a6 n9 o3;have j1:Hh (∀W,Bl W5 W->Cl 93 #[.slice y0 t.vs.length z0,.slice y3 qv.length z3] W λe w'=>∃a c,e=.returned (.slice a (shr t.vs qv).length c)/\w'.ownsRow W.1.size 3 1 (.slice a (shr t.vs qv).length c) (shr t.vs qv).length ((shr t.vs qv).map ai)/\Bl W w'):=ay λW V=>(Zj W t.vs qv (i7.o.vs.below (bt O.o V)) (q5.o.below (bt O.o V)) Oo Oo).mono (by
   rintro e w' ⟨v,rfl,ho,hb⟩;obtain⟨a,c,rfl⟩:=qG ho;exact⟨a,c,rfl,ho,hb⟩)
  have j2:Hh (∀W,Bl W5 W->Cl 93 #[.slice y0 t.vs.length z0,.slice a4 hd.length k4] W λe w'=>∃a c,e=.returned (.slice a (shr t.vs hd).length c)/\w'.ownsRow W.1.size 3 1 (.slice a (shr t.vs hd).length c) (shr t.vs hd).length ((shr t.vs hd).map ai)/\Bl W w'):=ay λW V=>(Zj W t.vs hd (i7.o.vs.below (bt O.o V)) (p5.o.below (bt f7.o (bt O.o V))) Oo (O1 p9.o)).mono (by
   rintro e w' ⟨v,rfl,ho,hb⟩;obtain⟨a,c,rfl⟩:=qG ho;exact⟨a,c,rfl,ho,hb⟩)
  go_upto_region 6 with fail;go_cut [13] from 36 to 46 (λu wc=>∃(pm be:Nat) (c1:OA) (e1:Nat) (c2:OA) (e2:Nat),u=.pointer (some (az pm 0))/\Hh (Mm W5 wc pm be (.slice c1 (shr t.vs qv).length e1) (.slice c2 (shr t.vs hd).length e2) (shr t.vs qv) (shr t.vs hd)))
  case first=>
   have HS:Hh (∀W,Bl W5 W->W.cell? (az wr.1.size 0)=some (.slice y0 t.vs.length z0)):=ay λW V=>(d7.o.below V).c0;have s8:wr.1.size<W5.1.size:=d7.o.lt;have o4:Hh (∀(Y:World) (p:Nat) (u0 u1 u2 u3:Value),p≠wr.1.size->Y.cell? (az wr.1.size 0)=some (.slice y0 t.vs.length z0)->((((Y.setCell (az p 0) u0).setCell (az p 1) u1).setCell (az p 2) u2).setCell (az p 3) u3).cell? (az wr.1.size 0)=some (.slice y0 t.vs.length z0)):=ay λY p u0 u1 u2 u3 r4 hc=>by
    have hn:∀(X:World) (j:Nat) (u:Value),X.cell? (az wr.1.size 0)=some (.slice y0 t.vs.length z0)->(X.setCell (az p j) u).cell? (az wr.1.size 0)=some (.slice y0 t.vs.length z0):=λX j u h=>(bF (w:=X) (a:=(az wr.1.size 0)) (bD _ _ _ _ (by exact r4.symm))).trans h;exact hn _ _ _ (hn _ _ _ (hn _ _ _ (hn _ _ _ hc)))
   unfold rgV;generalize hl1:(shr t.vs qv).length=l1 at *;generalize hl2:(shr t.vs hd).length=l2 at *;have r5:=ay hl1;have r6:=ay hl2;clear hl1 hl2;go_region_held_law (λW=>W.cell? (az wr.1.size 0)=some (.slice y0 t.vs.length z0))
    (first
     |(refine HS.o _ ?_;(repeat(with_reducible first|exact bJ _ _|exact bW|exact bX|refine qT ?_|refine qC ?_ _));done)
     |(refine o4.o _ _ _ _ _ _ ?_ ?_;(go_light;have:=bW.size;have:=bX.size;omega);(refine HS.o _ ?_;(repeat(with_reducible first|exact bJ _ _|exact bW|exact bX|refine qT ?_|refine qC ?_ _));done))
     |fail)
    (first
     |(go_simp;go_at_call 93;(with_reducible refine(j1.o _ (by(repeat(with_reducible first|exact bJ _ _|exact bW|exact bX|refine qT ?_|refine qC ?_ _)))).mono ?_);rintro e r7 ⟨t9,v6,rfl,g6,M⟩;have bW:Bl W5 r7:=bt (by(repeat(with_reducible first|exact bJ _ _|exact bW|exact bX|refine qT ?_|refine qC ?_ _))) M;(first
        |(with_reducible have hq:=At.bel (At.new (c:=#[.nilIface,sn,sn,.map none]) (t:=146) rfl) M)
        |(with_reducible have hq:=At.bel (At.al (At.new (c:=#[.nilIface,sn,sn,.map none]) (t:=146) rfl) _) M)
        |(with_reducible have hq:=At.bel (At.dr (At.new (c:=#[.nilIface,sn,sn,.map none]) (t:=146) rfl)) M)
        |(with_reducible have hq:=At.bel (At.dr (At.al (At.new (c:=#[.nilIface,sn,sn,.map none]) (t:=146) rfl) _)) M)
        |(with_reducible have hq:=At.bel hq M)
        |(with_reducible have hq:=At.bel (At.al hq _) M)
        |skip);(first
        |(with_reducible have hm:=At.bel (At.newM rfl) M)
        |(with_reducible have hm:=At.bel (At.al (At.newM rfl) _) M)
        |(with_reducible have hm:=At.bel (At.dr (At.newM rfl)) M)
        |(with_reducible have hm:=At.bel (At.dr (At.al (At.newM rfl) _)) M)
        |(with_reducible have hm:=At.bel hm M)
        |(with_reducible have hm:=At.bel (At.al hm _) M)
        |skip);(try simp only[World.size_alloc]at hq);(try simp only[World.size_alloc]at hm))
     |(go_simp;go_at_call 93;(with_reducible refine(j2.o _ (by(repeat(with_reducible first|exact bJ _ _|exact bW|exact bX|refine qT ?_|refine qC ?_ _)))).mono ?_);rintro e o5 ⟨a12,v7,rfl,g7,K⟩;have bX:Bl W5 o5:=bt (by(repeat(with_reducible first|exact bJ _ _|exact bW|exact bX|refine qT ?_|refine qC ?_ _))) K;(try have hap:=qI4 g6 g7 (by(repeat(with_reducible first|exact bJ _ _|refine qT ?_|refine qC ?_ _|refine bt ?_ K))));(first
        |(with_reducible have hq:=At.bel (At.new (c:=#[.nilIface,sn,sn,.map none]) (t:=146) rfl) K)
        |(with_reducible have hq:=At.bel (At.al (At.new (c:=#[.nilIface,sn,sn,.map none]) (t:=146) rfl) _) K)
        |(with_reducible have hq:=At.bel (At.dr (At.new (c:=#[.nilIface,sn,sn,.map none]) (t:=146) rfl)) K)
        |(with_reducible have hq:=At.bel (At.dr (At.al (At.new (c:=#[.nilIface,sn,sn,.map none]) (t:=146) rfl) _)) K)
        |(with_reducible have hq:=At.bel hq K)
        |(with_reducible have hq:=At.bel (At.al hq _) K)
        |skip);(first
        |(with_reducible have hm:=At.bel (At.newM rfl) K)
        |(with_reducible have hm:=At.bel (At.al (At.newM rfl) _) K)
        |(with_reducible have hm:=At.bel (At.dr (At.newM rfl)) K)
        |(with_reducible have hm:=At.bel (At.dr (At.al (At.newM rfl) _)) K)
        |(with_reducible have hm:=At.bel hm K)
        |(with_reducible have hm:=At.bel (At.al hm _) K)
        |skip);(try simp only[World.size_alloc]at hq);(try simp only[World.size_alloc]at hm);(try obtain⟨q0,q1,q2,q3,f0,f1,f2,f3⟩:=hq.msg);(try obtain⟨r0,r1,r2,r3,e0,e1,e2,e3⟩:=hq.msgA);obtain⟨n0,n1,n2,n3,m0,m1,m2,m3⟩:=(At.new (w:=o5) (c:=#[.nilIface,sn,sn,.map none]) (t:=146) rfl).msgA)
     |fail)
   all_goals
    clear j1 j2 HS o4 n0 n1 n2 n3 m0 m1 m2 m3
    try clear q0 q1 q2 q3 f0 f1 f2 f3 r0 r1 r2 r3 e0 e1 e2 e3
    go_wp2
    go_meet
    go_light
    refine⟨_,?_,?_,?_,?_,?_,rfl,ay ?_⟩
    rotate_right
    first
     |(with_reducible refine mmA ?_ ?_ ?_ ?_ ?_ ?_ ?_ hap)
     |(with_reducible refine mmB ?_ ?_ ?_ ?_ ?_ ?_ hap)
     |(with_reducible refine mmC ?_ ?_ ?_ ?_ ?_ ?_ hap)
     |(with_reducible refine mmD ?_ ?_ ?_ ?_ ?_ hap)
    all_goals first
     |((repeat(with_reducible first|exact bJ _ _|exact bW|exact bX|refine qT ?_|refine qC ?_ _));done)
     |((repeat(with_reducible first|exact hq|refine At.al ?_ _));done)
     |((repeat(first|with_reducible exact hm|(with_reducible refine At.newM ?_);(first|rfl|simp;done)|with_reducible refine At.al ?_ _));done)
     |(rw[r5.o];exact qE (qB g6 (by(repeat(with_reducible first|exact bJ _ _|refine qT ?_|refine qC ?_ _|refine bt ?_ K)))) (by(first|exact nR _|(have:=bW.size;have:=bX.size;first|omega|(simp;done)|(simp;omega)))))
     |(rw[r6.o];exact qE (qB g7 (by(repeat(with_reducible first|exact bJ _ _|refine qC ?_ _)))) (by(first|exact nR _|(have:=bW.size;have:=bX.size;first|omega|(simp;done)|(simp;omega)))))
     |(first|rfl|simp;done)
     |(first|exact nR _|(have:=bW.size;have:=bX.size;first|omega|(simp;done)|(simp;omega)))
  case rest=>
   obtain⟨pm,be,c1,e1,c2,e2,rfl,j3⟩:=hcut;generalize wc=W6 at *;have a6:Hh (∀W,Bl W6 W->Bl W5 W):=ay λW V=>bt j3.o.bel V;have j4:Bl w W5:=bt f7.o O.o;have KA:Hh (∀W,Bl W6 W->Cl 95 #[.agg #[sZ b o n k0,sZ bp op n k1,.slice a2 nh k2],ai (i:Int),.slice a3 nt k3] W λe w'=>∃v,e=.returned v/\(∃nr,nr<=1000/\RgS W5 w' W6.1.size v nr)/\Bl W w'):=ay λW V=>by
    have h5:=a6.o W V;apply (qAO W5 W hl tl h5 (p3.o.below (bt j4 h5)) (p4.o.below j4) (by rw[q4.o,l8.o];exact l7.o) (by rw[l8.o];exact p8.o) p6.o p7.o).mono;rintro e w' ⟨v,rfl,⟨nr,h1,h2⟩,hb⟩;exact⟨v,rfl,⟨nr,h1,h2.low V.size⟩,hb⟩
   have KB:Hh (∀W,Bl W6 W->Cl 96 #[.agg #[sZ b o n k0,sZ bp op n k1,.slice a2 nh k2],ai (i:Int),vs] W λe w'=>∃v,e=.returned v/\MsS W5 w' W6.1.size v (zg ps ch i)/\Bl W w'):=ay λW V=>by
    have h5:=a6.o W V;apply (below_calls W ps es (h9.o.below (bt j4 h5)) (d3.o.below (bt O.o h5)).mgs (by rw[a7.o,e6.o];omega) (by rw[a7.o];omega)).mono;rintro e w' ⟨v,rfl,hM,hb⟩;have hS:=hM.is (w0:=W5) (lo:=W6.1.size) V.size λe he=>(d3.o.below O.o).each e (qFp he) W5 λ_ _ _ _=>rfl;rw[q8.o]at hS;exact⟨v,rfl,hS,hb⟩
   have KG:Hh (∀W vr nr vb,Bl W6 W->nr<=1000->RgS W5 W W6.1.size vr nr->MsS W5 W W6.1.size vb (zg ps ch i)->Cl 94 #[.pointer (some (az pm 0)),.agg #[.slice y0 t.vs.length z0,.slice y1 t.rows.length z1,.slice y2 t.ws.length z2],vr,vb] W λe w'=>e=.returned (.tuple #[])/\∃a9 l9 k9,Bl W5 w'/\MgB w' pm be (.slice c1 (shr t.vs qv).length e1) (.slice a9 l9 k9)/\Fz wr.1.size (λX=>ChA X (.slice c1 (shr t.vs qv).length e1) (.slice a9 l9 k9) be (ch i)) w'):=ay λW vr nr vb V h1 h2 h3=>by
    obtain⟨m1,m2,m3,m4,m5⟩:=HM.o;obtain⟨r8,r9⟩:=j3.o.ga V (i7.o.below O.o) m2.1 m2.2 h2 h1 h3 q7.o (by rw[<-g4.o];exact⟨m4.1.1,m4.2.1⟩);apply (n7.o W5 W _ _ _ _ _ vr vb _ _ nr _ r8 r9).mono;rintro e w' ⟨rfl,v,o6,-,D,hg⟩;obtain⟨a9,k9,e9⟩:=qG hg.hd.own;subst e9;obtain⟨hB,hF⟩:=j3.o.sent V hg (c:=ch i) (B:=wr.1.size) O.o.size g4.o m1 (by rw[<-g4.o];exact m3) m4;exact⟨rfl,a9,_,k9,hB,hg.mb,hF⟩
   have HS:Hh (∀W,Bl W5 W->W.cell? (az wr.1.size 0)=some (.slice y0 t.vs.length z0)/\W.cell? (az wr.1.size 1)=some (.slice y1 t.rows.length z1)/\W.cell? (az wr.1.size 2)=some (.slice y2 t.ws.length z2)/\W.cell? (az w.1.size 0)=some (sZ b o n k0)/\W.cell? (az w.1.size 1)=some (sZ bp op n k1)/\W.cell? (az w.1.size 2)=some (.slice a2 nh k2)):=ay λW V=>⟨(d7.o.below V).c0,(d7.o.below V).c1,(d7.o.below V).c2,(j0.o.below V).c0,(j0.o.below V).c1,(j0.o.below V).c2⟩;have b0:Bl W6 W6.drew:=(bJ _ _).drew;have b1:=a6.o _ b0;clear j1 j2;go_upto_region 7 with fail;go_region_held_law (λW=>W.cell? (az wr.1.size 0)=some (.slice y0 t.vs.length z0)/\W.cell? (az wr.1.size 1)=some (.slice y1 t.rows.length z1)/\W.cell? (az wr.1.size 2)=some (.slice y2 t.ws.length z2)/\W.cell? (az w.1.size 0)=some (sZ b o n k0)/\W.cell? (az w.1.size 1)=some (sZ bp op n k1)/\W.cell? (az w.1.size 2)=some (.slice a2 nh k2))
    (first
     |with_reducible exact HS.o _ b1
     |with_reducible exact HS.o _ b2
     |with_reducible exact HS.o _ b3
     |with_reducible exact HS.o _ d8
     |fail)
    (first
     |(go_simp;go_at_call 95;(with_reducible refine(KA.o _ b0).mono ?_);rintro e v8 ⟨vr,rfl,⟨nr,s3,o7⟩,o8⟩;have bA:=bt b0 o8;have b2:=a6.o _ bA)
     |(go_simp;go_at_call 96;(with_reducible refine(KB.o _ bA).mono ?_);rintro e v9 ⟨vb,rfl,o9,g8⟩;have bB:=bt bA g8;have b3:=a6.o _ bB;have g9:=o7.keep λk _ hk=>g8.block k hk)
     |(go_simp;go_at_call 94;(with_reducible refine(KG.o _ _ _ _ bB s3 g9 o9).mono ?_);rintro e p1 ⟨rfl,a9,l9,k9,d8,d9,h4⟩)
     |fail)
   all_goals
    obtain⟨m0,m1,m2,m3,-⟩:=d9.cells
    unfold rgV at m0
    have b7:Hh (Bl wr p1):=ay (bt O.o d8)
    have HF:=ay h4
    have HO:=qB d3.o.own b7.o
    have hsz:W1.1.size<=p1.1.size:=(bt b9.o b7.o).size
    have i3:es.length<=20:=by rw[a7.o];omega
    clear KA KB KG HS d8 d9 h4 o9 o7 g9 bA bB b1 b2 b3
    go_wp2_with (first
     |(at_builtin;refine wpList_append_lies _ rfl _ _ 142 rfl W1.1.size 146 iM (.agg #[.nilIface,sn,sn,.map none]) 4 72 underlying142 hi l3 l4 l5 rfl Dd vs es.length (es.flatMap mcl) rfl (HO.alloc _) (az _ 0) 1 1 [.iface 68 (.agg #[]),.slice c1 (shr t.vs qv).length e1,.slice a9 l9 k9,.map (some be)] rfl rfl (U0) (λu hu=>by simp at hu;rcases hu with rfl|rfl|rfl|rfl <;> rfl) Dd Um Oo Sy _ rfl ?_;intro g10 s4 p2 b8 a5 e4 j5)
     |fail)
    have HP:Hh (Snt W1.1.size p2 (sZ g10 0 (es.length+1) s4) (es++[⟨c1,_,e1,a9,l9,k9,be,ch i⟩])/\Bl W1 p2):=ay ⟨d3.o.push b9.o.size b7.o HF.o b8 a5 e4,((bt b9.o b7.o).alloc hsz _).grown a5 Sy λk hk=>(HO.lt k hk).1⟩
    clear b8 a5 e4 j5 HO m0 m1 m2 m3
    go_roundw
    case rel=>exact⟨i+1,_,Oo,Gg,rfl,ay ⟨_,by rw[lA,a7.o];rfl,λj hj=>by
     by_cases e:j<i;rw[gD,aL (by rw[a7.o];exact e),<-gD];exact i4.o j e;obtain rfl:j=i:=Oo;rw[gD,bQ (by rw[a7.o];omega),a7.o,Nat.sub_self];rfl,HP.o.1,HP.o.2⟩⟩
    case measure=>go_light;simp[intOf];omega
 obtain rfl:i=n:=Oo;have i1:¬((i:Int)<i):=Oo;obtain⟨m,rfl⟩:∃m,i=m+1:=⟨i-1,Oo⟩;obtain⟨aS,kS,eS,e5⟩:=d3.o.mgs;rw[a7.o]at eS e5;subst eS;rcases e5 with h0|⟨bS,oS,rfl,e5⟩;omega;obtain⟨-,-,-,g3,j6⟩:=e5 m Oo;rw[i4.o m Oo]at j6;generalize es.getD m zZ=mg at *;obtain⟨B',o6,D',c7⟩:=j6.en;have hz:Ok6 z6:=⟨rfl,Dd⟩;have h7:keyOf Tryz.prog 137 (.agg #[ai 0,ai 0,ai 0,ai 0,ai 0,ai 0])=some (kla z6):=yP hz;obtain⟨vv,pp,w2,hvv⟩:=c7.map.own.lookup Tryz.lawA Tryz.underEn (Tryz.zeroW _) (zd:=.lit (.int .i64 (-1))) (zp:=[]) rfl h7;have HE:Hh (MsE (ch m) w wr vv):=ay (by
  refine⟨?_,bt m6.o b9.o⟩;by_cases hm:z6∈o6.map Prod.fst;obtain⟨⟨s',cc⟩,h8,e⟩:=cC.1 hm;have e:s'=z6:=e;subst e;rw[c7.ref _ h8]at hvv;obtain rfl:=Zk hvv;obtain⟨kc,Dc,s5,s6⟩:=c7.inner _ h8;exact Or.inr ⟨cc,kc,Dc,rfl,s5,s6⟩;refine Or.inl ⟨?_,λa ha=>hm (c7.all _ _ ha)⟩;rw[atKey_of_not_has (by rw[c7.map.has _ hz];exact fC hm)]at hvv;obtain⟨r,rfl⟩:=qAD hvv;cases r with
  |none=>rfl
  |some c=>
   unfold kK at hvv;simp only[Option.some.injEq,Prod.mk.injEq,DataW.lit.injEq,Lit.int.injEq,true_and]at hvv;omega)
 clear j6 c7 h7 hvv e5;go_wp2;go_ret;exact⟨_,rfl,HE.o⟩
