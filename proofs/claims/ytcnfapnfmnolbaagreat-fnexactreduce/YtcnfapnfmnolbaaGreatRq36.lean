import Derived.Test.YtcnfapnfmnolbaaGreatRq35
set_option maxHeartbeats 40000000
set_option maxRecDepth 1000000
namespace Go.Proofs.YtcnfapnfmnolbaaGreat
open Go.RowKit
theorem qFd(W:World)(k:Int)(x y:Value):∀j u,[.slice (some (az W.1.size 0)) 1 1,x,y][j]?=some u->((W.alloc (.cells #[ai k] 3)).alloc (.cells #[.slice (some (az W.1.size 0)) 1 1,x,y] 183)).cell? (((az (W.1.size+1) 0):Addr).add j)=some u:=by
 have:=jd (W.alloc (.cells #[ai k] 3)) (.slice (some (az W.1.size 0)) 1 1) x y 183;rw[show(W.alloc (.cells #[ai k] 3)).1.size=W.1.size+1 by simp]at this;exact this
theorem UW(w:World)(vb ve:Value)(bag:LI)(es:LL)(hb:IS w vb bag)(h:ISS w ve es)(hl:qT es)(he:zX es=true)(hg:GoodBag es bag)(r7:1<=bag.length):
 Cl 117 #[vb,ve] w λe w'=>e=.returned (.agg #[ai (wdR es bag).num,ai (wdR es bag).den])/\Bl w w':=by
 obtain⟨i0,hi,r8,r9,s1⟩:=info_parts Tryz.infoInt;obtain⟨iD,hj,m5,m6,m7⟩:=info_parts Tryz.infoDem;obtain⟨iS,hk,s2,s3,s4⟩:=info_parts Tryz.infoIS;have s5:=kZ hg.set;have s6:=vJ he;have k2:=qAW he;have d9:=qAb k2 (Vn hg.cov);obtain⟨y,hy,m8⟩:=jR (bag:=bag) (es:=zo bag es) Oo d9;obtain⟨x,hx,px⟩:=hg.best;have e0:Hh (Cov.sm (zo bag es).length y=wdR es bag):=ay (by rw[<-qAa k2 hx hy];exact Ju hx px);have HY:=ay hy;have k3:=ay m8;have k4:1<=(zo bag es).length:=by
  obtain⟨e,h1,-⟩:=d9 0 Oo;omega
 have e8:(zo bag es).length<=7:=by
  have:=qEN bag es;rw[ym];omega
 have s7:=ay hb;have s8:=ay h;obtain⟨aB,cB,rfl,m9⟩:=hb;obtain⟨aE,cE,rfl,-⟩:=h;have k5:=ay hl.2;have n1:Hh (∀j,j<bag.length->∃b o,aB=some (az b o)/\w.cell? (az b (o+j))=some (ai (bag.getD j 0))):=ay (λj hj=>by
  rcases m9 with h0|⟨b,o,e,hc⟩;omega;exact⟨b,o,e,hc j Oo⟩)
 have k6:Hh (∀j,j<es.length->∃b o u,aE=some (az b o)/\w.cell? (az b (o+j))=some u/\IS w u (es.getD j [])):=ay (λj hj=>s8.o.get rfl Oo);have f7:Hh (∀W u j,Bl w W->j<es.length->IS W u (es.getD j [])->Cl 44 #[u,.slice aB bag.length cB] W λe w'=>∃u,e=.returned u/\w'.ownsRow W.1.size 3 1 u (qP bag (es.getD j [])).length ((qP bag (es.getD j [])).map ai)/\Bl W w'):=
  ay λW u j hW hj hu=>Y6 W u _ (es.getD j []) bag hu (k5.o j) (s7.o.below hW) Oo
 have k7:=ay (qCF bag es);have i9:Hh (∀k,vQ bag es k=true->zr bag es (k+1)=zr bag es k++[qP bag (es.getD k [])]):=ay λk=>qCE;have f8:Hh (∀k,vQ bag es k=false->zr bag es (k+1)=zr bag es k):=ay λk=>qAi;have j0:=ay (qDJ bag es);have j1:Hh (∀i,vX bag es i 0=decide (0<(qP bag (es.getD i [])).length)):=ay λi=>by simp[vX]
 have j2:Hh (∀i j,vX bag es i (j+1)=(vX bag es i j&&!kx bag es i j)):=ay qCG;have f9:Hh (∀i,vX bag es i es.length=vQ bag es i):=ay λi=>rfl;have n2:Hh (∀i j,kx bag es i j=(decide (j≠i)&&yE (qP bag (es.getD i [])) (qP bag (es.getD j []))&&(decide ((qP bag (es.getD i [])).length<(qP bag (es.getD j [])).length)||decide (j<i)))):=ay λi j=>rfl;have d8:Hh (∀i,(qP bag (es.getD i [])).length<=1099511627776):=ay λi=>bM (Kq _ _) (k5.o i);have j3:Hh (zr bag es 0=[]):=ay rfl;obtain⟨nb,k8⟩:=Ex bag.length;obtain⟨m,hm⟩:=Ex es.length;have k9:=ay k8;have HM:=ay hm;have w2:=ay hg;rw[<-k8]at s5 r7 n1 f7 ⊢;rw[<-hm]at s6 k6 f7 k7 f9 ⊢;have hA:Bl w (w.alloc (.cells #[ai 0,ai 0] 36)):=(bJ _ _).alloc (nR _) _;have n3:ZR (w.alloc (.cells #[ai 0,ai 0] 36)) w.1.size:=⟨heap_alloc_new _ _⟩;clear m9 hl k8 hm he k2 d9 hy m8 hx hg;go_enter Tryz.func117,Tryz.ntmps117;go_upto_region 1 with fail;generalize w.alloc (.cells #[ai 0,ai 0] 36)=W0 at *;have HA:=ay hA;have HZ:=ay n3;clear hA n3;have h7:Bl w (W0.alloc eD):=HA.o.alloc HA.o.size _;have n4:Hh (Bl w ((W0.alloc eD).alloc (.cells #[] 24))/\ZR ((W0.alloc eD).alloc (.cells #[] 24)) w.1.size/\DL ((W0.alloc eD).alloc (.cells #[] 24)) w.1.size (.slice (some (az W0.1.size 0)) 0 0) []/\RL ((W0.alloc eD).alloc (.cells #[] 24)) w.1.size (.slice (some (az (W0.1.size+1) 0)) 0 0) [] []):=
  ay ⟨h7.alloc h7.size _,(HZ.o.alloc _).alloc _,((DL.nil W0).base HA.o.size).below (aK),by
   have:=(RL.nil (W0.alloc eD)).base h7.size;rw[show(W0.alloc eD).1.size=W0.1.size+1 by simp]at this;exact this⟩
 clear h7;go_wp2;go_loopw [6,24] (λv t wr=>∃(k:Nat) (vp:Value) (vs:List Value),k<=m/\t=ai k/\vp=v/\Hh (Bl w wr/\ZR wr w.1.size/\DL wr w.1.size (.slice (some (az W0.1.size 0)) 0 0) []/\RL wr w.1.size vp vs (zr bag es k))) (λ_ t _=>m-(intOf t).toNat);exact⟨0,_,[],nZ _,rfl,rfl,by rw[j3.o];exact n4⟩;clear n4;obtain⟨k,vp,vs,s9,rfl,rfl,hH⟩:=hrel;generalize wr=W1 at *;have d1:=ay hH.o.1;have h8:=ay hH.o.2.1;have i4:=ay hH.o.2.2.1;have b9:=ay hH.o.2.2.2;clear hH;by_cases n5:k<m
 ·have i1:(k:Int)<(m:Int):=Oo;obtain⟨b,o,u,rfl,e1,hu⟩:=k6.o k n5;have c1:=qJ d1.o e1;have g4:=ay (f7.o W1 u k d1.o n5 (hu.below d1.o));have d4:=d8.o k;obtain⟨a1,n6,rfl,-⟩:=hu;clear e1;generalize (es.getD k []).length=lk at *;go_wp2_with fail;refine g4.o.mono ?_;rintro e W2 ⟨u9,rfl,d2,l0⟩;have c8:=ay l0;have i5:=ay d2;have n7:=ay (bt d1.o l0);obtain⟨a9,c9,e9,-⟩:=qS d2;subst e9;clear d2 l0 g4 c1;have l1:=j1.o k;have n8:=ay (j2.o k);have n9:=f9.o k;have j4:=ay (n2.o k);obtain⟨pk,l2⟩:=Ex (qP bag (es.getD k []));have t3:=ay l2;rw[<-l2]at d4 i5 j4 l1 ⊢;clear l2;have o3:=ay l1;have t4:=ay n9;clear l1 n9;obtain⟨lp,i6⟩:=Ex pk.length;rw[<-i6]at d4 i5 o3 ⊢;have b0:=ay i6;clear i6;go_wp2_with fail;go_loopw [10,37] (λs t wr=>∃j:Nat,j<=m/\t=ai j/\s=.bool (vX bag es k j)/\Hh (Bl W2 wr)) (λ_ t _=>m-(intOf t).toNat)
  case atStart=>
   refine⟨0,nZ _,rfl,?_,ay (bJ _ _)⟩;rw[o3.o]
  case round=>
   obtain⟨j,t5,rfl,rfl,hH⟩:=hrel;generalize wr=W3 at *;have g5:=ay hH.o;have a8:=ay (bt n7.o hH.o);clear hH;by_cases o4:j<m
   ·have i2:(j:Int)<(m:Int):=Oo;obtain⟨b',o',u,e',e1,hu⟩:=k6.o j o4;simp only[Option.some.injEq,Addr.mk.injEq,and_true]at e';obtain⟨rfl,rfl⟩:=e';have c1:=qJ a8.o e1;have g4:=ay (f7.o W3 u j a8.o o4 (hu.below a8.o));have o5:=d8.o j;obtain⟨a1,n6,rfl,-⟩:=hu;have d0:=n8.o j;have V:=j4.o j;clear e1;generalize (es.getD j []).length=lj at *;generalize vX bag es k j=s at *;generalize kx bag es k j=ov at *;generalize qP bag (es.getD j [])=pj at *;go_wp2_with fail;refine g4.o.mono ?_;rintro e W4 ⟨t6,rfl,d5,l3⟩;have O:=ay (bt g5.o l3);have o6:=qS d5;have h9:=(qS (l:=pk) (by rw[<-b0.o];exact i5.o)).below (bt g5.o l3);have i7:=ay (kK W4 _ t6 pk pj h9 (by rw[<-b0.o];exact d4) o6 o5);obtain⟨w4,w7,t7,-⟩:=o6;subst t7;clear d5 l3 h9 g4 c1;rw[<-b0.o]at V;generalize pj.length=l4 at *;generalize yE pk pj=sb at *;by_cases o7:j=k
    ·subst o7;rw[decide_eq_false Ss,Bool.false_and,Bool.false_and]at V;subst V;go_wp2_with fail;go_roundw;exact⟨j+1,Oo,Gg,by rw[d0];simp,O⟩;exact Im
    rw[decide_eq_true o7,Bool.true_and]at V;have x1:((j:Int) != (k:Int))=true:=Sy;cases sb
    ·rw[Bool.false_and]at V;subst V;go_wp2_with fail;refine i7.o.mono ?_;rintro e w' ⟨rfl,g6⟩;subst w';go_wp2_with fail;go_roundw;exact⟨j+1,Oo,Gg,by rw[d0];simp,O⟩;exact Im
    rw[Bool.true_and]at V;by_cases o8:lp<l4
    ·rw[decide_eq_true o8,Bool.true_or]at V;subst V;have x2:(lp:Int)<(l4:Int):=Oo;go_wp2_with fail;refine i7.o.mono ?_;rintro e w' ⟨rfl,g6⟩;subst w';go_wp2_with fail;go_roundw;exact⟨j+1,Oo,Gg,by rw[d0];simp,O⟩;exact Im
    rw[decide_eq_false o8,Bool.false_or]at V;have x2:¬((lp:Int)<(l4:Int)):=Oo;by_cases o9:j<k
    ·rw[decide_eq_true o9]at V;subst V;have x3:(j:Int)<(k:Int):=Oo;go_wp2_with fail;refine i7.o.mono ?_;rintro e w' ⟨rfl,g6⟩;subst w';go_wp2_with fail;go_roundw;exact⟨j+1,Oo,Gg,by rw[d0];simp,O⟩;exact Im
    rw[decide_eq_false o9]at V;subst V;have x3:¬((j:Int)<(k:Int)):=Oo;go_wp2_with fail;refine i7.o.mono ?_;rintro e w' ⟨rfl,g6⟩;subst w';go_wp2_with fail;go_roundw;exact⟨j+1,Oo,Gg,by rw[d0];simp,O⟩;exact Im
   obtain rfl:j=m:=Oo;have i2:¬((j:Int)<(j:Int)):=Oo;have d6:=i9.o k;have b1:=f8.o k;rw[<-t4.o]at d6 b1;generalize vX bag es k j=s at *;cases s
   ·have HE:=ay (b1 rfl);clear d6 b1;have HF:Hh (Bl w W3/\ZR W3 w.1.size/\DL W3 w.1.size (.slice (some (az W0.1.size 0)) 0 0) []/\RL W3 w.1.size vp vs (zr bag es (k+1))):=ay (by
     have hb:=bt c8.o g5.o;rw[HE.o];exact⟨a8.o,h8.o.below hb,i4.o.below hb,b9.o.below hb⟩)
    go_wp2_with fail;go_roundw;exact⟨k+1,vp,vs,Oo,Gg,rfl,HF⟩;exact Im
   have HE:=ay (d6 rfl);clear d6 b1;have hb:=bt c8.o g5.o;have p1:=ay (b9.o.below hb);have t8:=ay (h8.o.below hb);have t9:=ay (i4.o.below hb);have I:=p1.o.own;have v9:=j0.o k;have b7:=a8.o.size;have p2:=ay (qF (qB i5.o g5.o) d1.o.size);clear hb;go_wp2_with (first
    |(at_builtin;refine wpList_append_own _ rfl _ _ 23 rfl w.1.size 24 iS sn 1 24 Tryz.underlying23 hk s2 s3 s4 rfl Dd _ _ _ rfl (I.alloc _) (az W3.1.size 0) 1 1 [.slice a9 lp c9] rfl rfl ?ka1 ?ka2 ?ka3 ?ka4 ?ka5 ?_)|fail)
   try(case ka1=>exact qH _ _ _)
   case ka2=>first|rfl|(intro u hu;simp at hu;subst hu;rfl)
   case ka3=>unfold maxLen;omega
   case ka4=>omega
   case ka5=>exact bM b7 Ss
   intro v' w5 M K _;have HF:Hh (Bl w w5/\ZR w5 w.1.size/\DL w5 w.1.size (.slice (some (az W0.1.size 0)) 0 0) []/\RL w5 w.1.size v' (vs++[.slice a9 lp c9]) (zr bag es (k+1))):=ay (by
    rw[HE.o];refine⟨zT b7 I a8.o K,t8.o.grow2 I K,t9.o.far I K,p1.o.step (u:=.slice a9 lp c9) ?_ M K⟩;rw[<-t3.o,<-b0.o];exact p2.o)
   clear M K I;go_wp2;go_roundw;exact⟨k+1,v',_,Oo,Gg,rfl,HF⟩;exact Im
 obtain rfl:m=k:=Oo;have i1:¬((m:Int)<(m:Int)):=Oo;rw[k7.o]at b9;clear i9 f8 j0 j1 j2 f9 n2 d8 j3 f7 k7;have g7:Hh (∀j,j<(zo bag es).length->((zo bag es).getD j []).length<=1099511627776):=ay λj hj=>by
  rw[ky (by rw[<-ym];exact hj)];exact bM (Kq _ _) (k5.o _)
 obtain⟨U,p3⟩:=Ex (zo bag es);rw[<-p3]at b9 e0 HY k3 k4 e8 g7;clear p3;obtain⟨gP,cP,rfl,-,-⟩:=b9.o.get (i:=0) Oo;have l5:Hh (∀W,RL W w.1.size (.slice (some (az gP 0)) U.length cP) vs U->∀j,j<U.length->W.cell? (az gP j)=some (vs.getD j undef)/\IS W (vs.getD j undef) (U.getD j [])):=ay λW hR j hj=>by
  obtain⟨g,c,e,h1,h2⟩:=hR.get hj;simp only[Value.slice.injEq,Option.some.injEq,Addr.mk.injEq,and_true,true_and]at e;obtain⟨rfl,rfl⟩:=e;exact⟨h1,h2⟩
 have l6:Hh (∀k,k<nb->xB ((qQ bag U).take (k+1))=xB ((qQ bag U).take k)++[⟨plN (λi=>decide (bag.getD k 0∈U.getD i [])) U.length,false,1⟩]):=ay λk hk=>qBz (by rw[<-k9.o];exact hk);have p4:Hh (xB ((qQ bag U).take nb)=xB (qQ bag U)):=ay (by rw[k9.o,<-yW bag U,tL]);have p5:Hh (xB (qQ bag U)++xn U.length=jL bag U):=ay rfl;have j5:Hh (∀D∈jL bag U,zj U.length D):=ay (qCk e8);have g8:Hh (ZC U.length false (jL bag U) y):=ay (qBm HY.o);have p6:Hh (∀k,k<=nb->(xB ((qQ bag U).take k)).length=k):=ay λk hk=>by
  simp only[xB,List.length_map,List.length_take,yW];rw[<-k9.o];omega
 obtain⟨nP,l7⟩:=Ex U.length;have w8:=ay l7;rw[<-l7]at l5 k4 e8 g7 l6 p5 j5 g8 e0 k3 b9 ⊢;clear l7 HY;have p7:Hh (Bl w W1/\ZR W1 w.1.size/\DL W1 w.1.size (.slice (some (az W0.1.size 0)) 0 0) []/\RL W1 w.1.size (.slice (some (az gP 0)) nP cP) vs U/\([]:List (Value×Dem)).map Prod.snd=xB ((qQ bag U).take 0)/\([]:List (Value×Dem)).length=0):=ay ⟨d1.o,h8.o,i4.o,b9.o,rfl,rfl⟩;clear d1 h8 i4 b9;go_wp2_with fail;go_loopw [5,74] (λv t wr=>∃(k:Nat) (vc:Value) (ps:List (Value×Dem)),k<=nb/\t=ai k/\vc=v/\Hh (Bl w wr/\ZR wr w.1.size/\DL wr w.1.size vc ps/\RL wr w.1.size (.slice (some (az gP 0)) nP cP) vs U/\ps.map Prod.snd=xB ((qQ bag U).take k)/\ps.length=k)) (λ_ t _=>nb-(intOf t).toNat);exact⟨0,_,[],nZ _,rfl,rfl,p7⟩;clear p7;obtain⟨k,vc,ps,w9,rfl,rfl,hH⟩:=hrel;generalize wr=W2 at *;have c8:=ay hH.o.1;have l8:=ay hH.o.2.1;have l9:=ay hH.o.2.2.1;have m0:=ay hH.o.2.2.2.1;have m1:=ay hH.o.2.2.2.2.1;have d8:=ay hH.o.2.2.2.2.2;clear hH;by_cases p8:k<nb
 ·have i2:(k:Int)<(nb:Int):=Oo;obtain⟨b,o,rfl,e1⟩:=n1.o k p8;have c1:=qJ c8.o e1;have j6:=ay (l6.o k p8);obtain⟨p,hp⟩:=Ex (λi=>decide (bag.getD k 0∈U.getD i []):Nat->Bool);rw[<-hp]at j6;have p9:=ay hp;obtain⟨z,hz⟩:=Ex (bag.getD k 0);rw[<-hz]at c1 p9;clear hp e1 hz;go_upto_region 22 with fail;have b8:=AT.new W2 sn false;have q2:Bl W2 (W2.alloc (.cells #[sn,.bool false,ai 1] 183)):=(bJ _ _).alloc (nR _) _;have HX:Hh (Bl W2 (W2.alloc (.cells #[sn,.bool false,ai 1] 183))/\∃a4,AT (W2.alloc (.cells #[sn,.bool false,ai 1] 183)) W2.1.size a4 false/\(W2.alloc (.cells #[sn,.bool false,ai 1] 183)).ownsRow W2.1.size 3 1 a4 (plc p 0).length ((plc p 0).map ai)):=ay ⟨q2,_,b8,oN _ _ _ _⟩;clear b8 q2 c1;generalize W2.alloc (.cells #[sn,.bool false,ai 1] 183)=W3 at *;go_wp2;go_loopw [81] (λt wr=>∃j:Nat,j<=nP/\t=ai j/\Hh (Bl W2 wr/\∃a4,AT wr W2.1.size a4 false/\wr.ownsRow W2.1.size 3 1 a4 (plc p j).length ((plc p j).map ai))) (λt _=>nP-(intOf t).toNat);exact⟨0,nZ _,rfl,HX⟩;obtain⟨j,t5,rfl,hH⟩:=hrel;clear HX;obtain⟨m2,a4,b8,I⟩:=hH.o;have O:=ay m2;have q3:=ay b8;have d7:=ay I;have d4:=xp p j;have d0:=m2.size;have t0:=b8.arr.cell 0 Oo;have t1:=b8.arr.cell 1 Oo;have t2:=b8.arr.cell 2 Oo;have f0:=b8.arr.free 0 Oo;simp only[f3]at t0 t1 t2;clear hH m2 b8 I;by_cases q4:j<nP
  ·have i3:(j:Int)<(nP:Int):=Oo;obtain⟨c2,hu⟩:=l5.o wr (m0.o.below O.o) j q4;have KH:Hh (Cl 62 #[vs.getD j undef,ai z] wr λe w'=>e=.returned (.bool (decide (z∈U.getD j [])))/\w'=wr):=ay (zm wr _ _ z hu (g7.o j q4));have q5:p j=decide (z∈U.getD j []):=by rw[p9.o]
   rw[<-q5]at KH;obtain⟨a7,c7,e7,-⟩:=hu;rw[e7]at c2 KH;clear q5 e7;generalize (U.getD j []).length=lj at *;by_cases m3:p j=true
   ·have e1:=ay (kI p j m3);rw[m3]at KH;have I:=d7.o;go_wp2_with (first
     |(go_at_call 62;refine KH.o.mono ?_;rintro e w' ⟨rfl,g6⟩;subst w')
     |(at_builtin;refine wpList_append_own _ rfl _ _ 24 rfl W2.1.size 3 i0 (ai 0) 1 8 Tryz.underlying24 hi r8 r9 s1 rfl Dd _ _ _ rfl (I.alloc _) (az wr.1.size 0) 1 1 [ai j] rfl rfl ?kb1 ?kb2 ?kb3 ?kb4 ?kb5 ?_))
    case kb1=>exact qH _ _ _
    case kb2=>intro u hu;simp at hu;subst hu;rfl
    case kb3=>unfold maxLen;omega
    case kb4=>omega
    case kb5=>exact bM d0 Ss
    intro v' w1 M K _;obtain⟨a6,c6,e6⟩:=qG3 M;obtain⟨⟨q0,q1⟩,k0,g9⟩:=q3.o.grow I M K;have h3:=zT d0 I O.o K;have HF:Hh (Bl W2 (w1.setCell (az W2.1.size 0) v')/\∃a4,AT (w1.setCell (az W2.1.size 0) v') W2.1.size a4 false/\(w1.setCell (az W2.1.size 0) v').ownsRow W2.1.size 3 1 a4 (plc p (j+1)).length ((plc p (j+1)).map ai)):=ay ⟨h3.setCell (nR _) _,v',k0,by rw[e1.o];simpa using g9⟩;clear M K I k0 g9 h3 t0 t1 t2 f0;subst e6;go_wp2;go_roundw;exact⟨j+1,Oo,Gg,HF⟩;exact Im
   have q6:p j=false:=by simpa using m3
   have e1:=ay (jQ p j q6);rw[q6]at KH;go_wp2_with (first|(go_at_call 62;refine KH.o.mono ?_;rintro e w' ⟨rfl,g6⟩;subst w'));go_roundw;exact⟨j+1,Oo,Gg,ay ⟨O.o,a4,q3.o,by rw[e1.o];exact d7.o⟩⟩;exact Im
  obtain rfl:nP=j:=Oo;have i3:¬((nP:Int)<(nP:Int)):=Oo;obtain⟨a5,c5,e5,-⟩:=qS d7.o;subst e5;have b0:=ay (qFY p nP);have q7:=ay (bt c8.o O.o);generalize i6:(plc p nP).length=lp at *;have m4:=l9.o.below O.o;have hlen:=d8.o;have I:=m4.own;rw[hlen]at I;have b7:=q7.o.size;go_wp2_with (first
   |(at_builtin;refine wpList_append_own _ rfl _ _ 181 rfl w.1.size 183 iD (.agg #[sn,.bool false,ai 0]) 3 40 Tryz.underlying181 hj m5 m6 m7 rfl Dd _ _ _ rfl (I.alloc _) (az wr.1.size 0) 1 1 [.slice a5 lp c5,.bool false,ai 1] rfl rfl ?kc1 ?kc2 ?kc3 ?kc4 ?kc5 ?_)|fail)
  case kc2=>first|rfl|exact⟨rfl,rfl,rfl⟩|(intro u hu;simp at hu;rcases hu with rfl|rfl|rfl <;> rfl)
  case kc3=>unfold maxLen;omega
  case kc4=>omega
  case kc5=>exact bM b7 Ss
  intro v' w3 M K _;have q8:=m4.step (p:=(.slice a5 lp c5,⟨plN p nP,false,1⟩)) (by
   have:=qF d7.o c8.o.size;show wr.ownsRow w.1.size 3 1 (.slice a5 lp c5) (plN p nP).length (ZU (plN p nP));rw[<-b0.o,<-qC7];exact this) (by rw[hlen];exact M) K
  have h3:=zT b7 I q7.o K;have HF:Hh (Bl w w3/\ZR w3 w.1.size/\DL w3 w.1.size v' (ps++[(.slice a5 lp c5,⟨plN p nP,false,1⟩)])/\RL w3 w.1.size (.slice (some (az gP 0)) nP cP) vs U/\(ps++[((.slice a5 lp c5:Value),(⟨plN p nP,false,1⟩:Dem))]).map Prod.snd=xB ((qQ bag U).take (k+1))/\(ps++[((.slice a5 lp c5:Value),(⟨plN p nP,false,1⟩:Dem))]).length=k+1):=
   ay ⟨h3,(l8.o.below O.o).grow I K,q8,(m0.o.below O.o).other I K,by rw[mA,m1.o,j6.o];rfl,by rw[lA,hlen];rfl⟩
  clear q8 h3 M K I m4 t0 t1 t2 f0;go_wp2;go_roundw;exact⟨k+1,v',_,Oo,Gg,rfl,HF⟩;exact Im
 obtain rfl:nb=k:=Oo;have i2:¬((nb:Int)<(nb:Int)):=Oo;have q9:Hh (Bl w W2/\ZR W2 w.1.size/\DL W2 w.1.size vc ps/\ps.map Prod.snd=xB (qQ bag U)++xn 0):=ay ⟨c8.o,l8.o,l9.o,by rw[m1.o,p4.o];simp[xn]⟩;clear c8 l8 l9 m0 m1 d8 l6 l5;go_wp2_with fail;go_loopw [5,103] (λv t wr=>∃(k:Nat) (vc:Value) (ps:List (Value×Dem)),k<=nP/\t=ai k/\vc=v/\Hh (Bl w wr/\ZR wr w.1.size/\DL wr w.1.size vc ps/\ps.map Prod.snd=xB (qQ bag U)++xn k)) (λ_ t _=>nP-(intOf t).toNat);exact⟨0,_,ps,nZ _,rfl,rfl,q9⟩;clear q9;obtain⟨k,vc,ps,x4,rfl,rfl,hH⟩:=hrel;generalize wr=W4 at *;have O:=ay hH.o.1;have r3:=ay hH.o.2.1;have h4:=ay hH.o.2.2.1;have i8:=ay hH.o.2.2.2;have b0:Hh (ps.length=nb+k):=ay (by
  have:=congrArg List.length hH.o.2.2.2;rw[lM,lA,<-p4.o,p6.o nb (nR _)]at this;rw[this];simp[xn])
 clear hH;by_cases s9:k<nP
 ·have i3:(k:Int)<(nP:Int):=Oo;have I:=h4.o.own;have hlen:=b0.o;rw[hlen]at I;have b7:=O.o.size;go_wp2_with (first
   |(at_builtin;refine wpList_append_own _ rfl _ _ 181 rfl w.1.size 183 iD (.agg #[sn,.bool false,ai 0]) 3 40 Tryz.underlying181 hj m5 m6 m7 rfl Dd _ _ _ rfl ((I.alloc _).alloc _) (az (W4.1.size+1) 0) 1 1 [.slice (some (az W4.1.size 0)) 1 1,.bool false,ai 0] rfl rfl ?kd1 ?kd2 ?kd3 ?kd4 ?kd5 ?_)|fail)
  case kd1=>exact qFd _ _ _ _
  case kd2=>first|rfl|exact⟨rfl,rfl,rfl⟩|(intro u hu;simp at hu;rcases hu with rfl|rfl|rfl <;> rfl)
  case kd3=>unfold maxLen;omega
  case kd4=>omega
  case kd5=>exact bM b7 Sy
  intro v' w1 h5 a3 _;have d3:Bl W4 (W4.alloc (.cells #[ai k] 3)):=(bJ _ _).alloc (nR _) _;have r4:(W4.alloc (.cells #[ai k] 3)).ownsRow w.1.size 3 1 (.slice (some (az W4.1.size 0)) 1 1) 1 (ZU [k]):=World.ownsRow_lit W4 #[ai k] 1 b7 Dd rfl;have HF:Hh (Bl w w1/\ZR w1 w.1.size/\DL w1 w.1.size v' (ps++[(.slice (some (az W4.1.size 0)) 1 1,⟨[k],false,0⟩)])/\(ps++[((.slice (some (az W4.1.size 0)) 1 1:Value),(⟨[k],false,0⟩:Dem))]).map Prod.snd=xB (qQ bag U)++xn (k+1)):=
   ay ⟨zT (bM b7 d3.size) (qB h4.o.own d3) (bt O.o d3) a3,(r3.o.below d3).grow (qB h4.o.own d3) a3,(h4.o.below d3).step (p:=(.slice (some (az W4.1.size 0)) 1 1,⟨[k],false,0⟩)) r4 (by rw[hlen];exact h5) a3,by rw[mA,i8.o,qAT,List.append_assoc];rfl⟩
  clear h5 a3 d3 r4 I;go_wp2;go_roundw;exact⟨k+1,v',_,Oo,Gg,rfl,HF⟩;exact Im
 obtain rfl:nP=k:=Oo;have i3:¬((nP:Int)<(nP:Int)):=Oo;rw[p5.o]at i8;have KC:=ay (qAS nP false ps y k4 e8 (by rw[b0.o];omega) (by rw[i8.o];exact j5.o) (by rw[i8.o];exact g8.o) vc W4 h4.o.dp);go_wp2_with fail;refine KC.o.mono ?_;rintro e w5 ⟨v5,rfl,r5,r6⟩;have KS:=ay (QX w5 v5 nP y e8 r5 k3.o);rw[e0.o]at KS;obtain⟨a5,c5,e5,-⟩:=r5;subst e5;have v6:=ay r6;clear r6 KC;go_wp2_with fail;refine KS.o.mono ?_;rintro e w6 ⟨rfl,k1⟩;have h6:=bt v6.o k1;have hT:=(r3.o.below h6).two;have e1:=hT.1;have e2:=hT.2.1;have e3:=hT.2.2.1;have e4:=hT.2.2.2;generalize hq1:(wdR es bag).num=qn at *;generalize hq2:((wdR es bag).den:Int)=qd at *;have v7:=ay hq1;have v8:=ay hq2;clear hq1 hq2;have HQ:=ay (And.intro (bt O.o h6) (hT.set qn qd));clear k1 h6 hT;go_wp2;have r1:=HQ.o.2.1;have r2:=HQ.o.2.2.1;refine bodyPost_ret (v:=.agg #[ai qn,ai qd]) (by simp[results,Tryz.results117,go_sem,r1,r2]) rfl ⟨by rw[v7.o,v8.o],(HQ.o.1.setCell (nR _) _).setCell (nR _) _⟩
end Go.Proofs.YtcnfapnfmnolbaaGreat
