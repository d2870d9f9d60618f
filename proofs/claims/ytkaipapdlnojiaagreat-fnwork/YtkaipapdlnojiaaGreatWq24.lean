import Derived.Test.YtkaipapdlnojiaaGreatWq23
set_option maxHeartbeats 40000000
set_option maxRecDepth 1000000
namespace Go.Proofs.YtkaipapdlnojiaaGreat
open Go.RowKit
theorem qEp(W:World)(k:Int)(x y:Value):∀j u,[.slice (some ⟨W.heap.size,0,none⟩) 1 1,x,y][j]?=some u->((W.alloc (.cells #[.int .i64 k] 3)).alloc (.cells #[.slice (some ⟨W.heap.size,0,none⟩) 1 1,x,y] 53)).cell? ((⟨W.heap.size+1,0,none⟩:Addr).add j)=some u:=by
 have:=vX (W.alloc (.cells #[.int .i64 k] 3)) (.slice (some ⟨W.heap.size,0,none⟩) 1 1) x y 53;rw[show(W.alloc (.cells #[.int .i64 k] 3)).heap.size=W.heap.size+1 by simp]at this;exact this
theorem VZ(w:World)(vb ve:Value)(bag:List Int)(es:List (List Int))(hb:IS w vb bag)(h:ISS w ve es)(hl:zS es)(he:qj es=true)(hg:GoodBag es bag)(s8:1<=bag.length):
 Cl 75 #[vb,ve] w λe w'=>e=.returned (.agg #[.int .i64 (wdR es bag).num,.int .i64 (wdR es bag).den])/\Bl w w':=by
 obtain⟨i0,hi,s9,t3,t4⟩:=info_parts Tryz.infoInt;obtain⟨iD,hj,n5,n6,n8⟩:=info_parts Tryz.infoDem;obtain⟨iS,hk,t5,t6,t7⟩:=info_parts Tryz.infoIS;have t8:=xq hg.set;have t9:=xH he;have k9:=J0 he;have f9:=J5 k9 (Yn hg.cov);obtain⟨y,hy,n9⟩:=ug (bag:=bag) (es:=zZ bag es) Oo f9;obtain⟨x,hx,px⟩:=hg.best;have g2:Hid (Cov.sm (zZ bag es).length y=wdR es bag):=hid (by rw[<-J4 k9 hx hy];exact qCJ hx px);have HY:=hid hy;have l0:=hid n9
 have l1:1<=(zZ bag es).length:=by
  obtain⟨e,h1,-⟩:=f9 0 Oo;omega
 have g4:(zZ bag es).length<=7:=by
  have:=qDX bag es;rw[yL];omega
 have u4:=hid hb;have u5:=hid h;obtain⟨aB,cB,rfl,o2⟩:=hb;obtain⟨aE,cE,rfl,-⟩:=h;have l2:=hid hl.2
 have o3:Hid (∀j,j < bag.length->∃b o,aB=some ⟨b,o,none⟩/\w.cell? ⟨b,o+j,none⟩=some (.int .i64 (bag.getD j 0))):=hid (λj hj=>by
  rcases o2 with h0|⟨b,o,e,hc⟩
  ·omega
  ·exact⟨b,o,e,hc j Oo⟩)
 have l3:Hid (∀j,j < es.length->∃b o u,aE=some ⟨b,o,none⟩/\w.cell? ⟨b,o+j,none⟩=some u/\IS w u (es.getD j [])):=hid (λj hj=>u5.out.get rfl Oo)
 have g5:Hid (∀W u j,Bl w W->j < es.length->IS W u (es.getD j [])->Cl 82 #[u,.slice aB bag.length cB] W λe w'=>∃u,e=.returned u/\w'.ownsRow W.heap.size 3 1 u (qM bag (es.getD j [])).length ((qM bag (es.getD j [])).map (Value.int .i64))/\Bl W w'):=
  hid λW u j hW hj hu=>Xw W u _ (es.getD j []) bag hu (l2.out j) (u4.out.below hW) Oo
 have l4:=hid (qBD bag es);have j3:Hid (∀k,yl bag es k=true->za bag es (k+1)=za bag es k++[qM bag (es.getD k [])]):=hid λk=>qBC;have g6:Hid (∀k,yl bag es k=false->za bag es (k+1)=za bag es k):=hid λk=>Kd;have j4:=hid (qCP bag es);have j5:Hid (∀i,yn bag es i 0=decide (0 < (qM bag (es.getD i [])).length)):=hid λi=>by simp[yn]
 have j6:Hid (∀i j,yn bag es i (j+1)=(yn bag es i j&&!kM bag es i j)):=hid qBE;have g7:Hid (∀i,yn bag es i es.length=yl bag es i):=hid λi=>rfl;have o4:Hid (∀i j,kM bag es i j=(decide (j≠i)&&yT (qM bag (es.getD i [])) (qM bag (es.getD j []))&&(decide ((qM bag (es.getD i [])).length < (qM bag (es.getD j [])).length)||decide (j < i)))):=hid λi j=>rfl;have f8:Hid (∀i,(qM bag (es.getD i [])).length<=1099511627776):=hid λi=>bQ (JG _ _) (l2.out i);have k0:Hid (za bag es 0=[]):=hid rfl;obtain⟨nb,l5⟩:∃nb,nb=bag.length:=⟨_,rfl⟩;obtain⟨m,hm⟩:∃m,m=es.length:=⟨_,rfl⟩;have l6:=hid l5;have HM:=hid hm;have w9:=hid hg;rw[<-l5]at t8 s8 o3 g5 ⊢;rw[<-hm]at t9 l3 g5 l4 g7 ⊢;have hA:Bl w (w.alloc (.cells #[.int .i64 0,.int .i64 0] 28)):=(bM _ _).alloc (bK _) _;have o5:ZR (w.alloc (.cells #[.int .i64 0,.int .i64 0] 28)) w.heap.size:=⟨heap_alloc_new _ _⟩;clear o2 hl l5 hm he k9 f9 hy n9 hx hg;go_enter Tryz.func75,Tryz.ntmps75
 go_upto_region 1 with fail
 generalize w.alloc (.cells #[.int .i64 0,.int .i64 0] 28)=W0 at *;have HA:=hid hA;have HZ:=hid o5;clear hA o5;have i6:Bl w (W0.alloc eD):=HA.out.alloc HA.out.size _
 have o6:Hid (Bl w ((W0.alloc eD).alloc (.cells #[] 25))/\ZR ((W0.alloc eD).alloc (.cells #[] 25)) w.heap.size/\DL ((W0.alloc eD).alloc (.cells #[] 25)) w.heap.size (.slice (some ⟨W0.heap.size,0,none⟩) 0 0) []/\RL ((W0.alloc eD).alloc (.cells #[] 25)) w.heap.size (.slice (some ⟨W0.heap.size+1,0,none⟩) 0 0) [] []):=
  hid ⟨i6.alloc i6.size _,(HZ.out.alloc _).alloc _,((DL.nil W0).base HA.out.size).below ((bM _ _).alloc (bK _) _),by
   have:=(RL.nil (W0.alloc eD)).base i6.size;rw[show(W0.alloc eD).heap.size=W0.heap.size+1 by simp]at this;exact this⟩
 clear i6;go_wp2;go_loopw [6,24] (λv t wr=>∃(k:Nat) (vp:Value) (vs:List Value),k<=m/\t=.int .i64 k/\vp=v/\Hid (Bl w wr/\ZR wr w.heap.size/\DL wr w.heap.size (.slice (some ⟨W0.heap.size,0,none⟩) 0 0) []/\RL wr w.heap.size vp vs (za bag es k))) (λ_ t _=>m - (intOf t).toNat)
 case atStart=>exact⟨0,_,[],nZ _,rfl,rfl,by rw[k0.out];exact o6⟩
 case round=>
  clear o6;obtain⟨k,vp,vs,u6,rfl,rfl,hH⟩:=hrel;generalize wr=W1 at *;have d7:=hid hH.out.1;have i7:=hid hH.out.2.1;have i8:=hid hH.out.2.2.1;have c8:=hid hH.out.2.2.2;clear hH;by_cases o7:k < m
  ·have i1:(k:Int) < (m:Int):=Oo;obtain⟨b,o,u,rfl,e1,hu⟩:=l3.out k o7;have c1:=U1 d7.out e1;have g8:=hid (g5.out W1 u k d7.out o7 (hu.below d7.out));have e0:=f8.out k;obtain⟨a1,o8,rfl,-⟩:=hu;clear e1;generalize (es.getD k []).length=lk at *;go_wp2_with fail
   refine g8.out.mono ?_;rintro e W2 ⟨u9,rfl,d8,l7⟩;have d0:=hid l7;have i9:=hid d8;have o9:=hid (bt d7.out l7);obtain⟨a9,c9,e9,-⟩:=qK d8;subst e9;clear d8 l7 g8 c1;have l8:=j5.out k;have p1:=hid (j6.out k);have p2:=g7.out k;have k1:=hid (o4.out k);obtain⟨pk,l9⟩:∃p,p=qM bag (es.getD k []):=⟨_,rfl⟩;have v3:=hid l9;rw[<-l9]at e0 i9 k1 l8 ⊢;clear l9;have p3:=hid l8;have v4:=hid p2;clear l8 p2;obtain⟨lp,j0⟩:∃n,n=pk.length:=⟨_,rfl⟩;rw[<-j0]at e0 i9 p3 ⊢;have a8:=hid j0;clear j0;go_wp2_with fail
   go_loopw [10,37] (λs t wr=>∃j:Nat,j<=m/\t=.int .i64 j/\s=.bool (yn bag es k j)/\Hid (Bl W2 wr)) (λ_ t _=>m - (intOf t).toNat)
   case atStart=>
    refine⟨0,nZ _,rfl,?_,hid (bM _ _)⟩;rw[p3.out]
   case round=>
    obtain⟨j,v6,rfl,rfl,hH⟩:=hrel;generalize wr=W3 at *;have g9:=hid hH.out;have a4:=hid (bt o9.out hH.out);clear hH;by_cases p4:j < m
    ·have i2:(j:Int) < (m:Int):=Oo;obtain⟨b',o',u,e',e1,hu⟩:=l3.out j p4;simp only[Option.some.injEq,Addr.mk.injEq,and_true]at e';obtain⟨rfl,rfl⟩:=e';have c1:=U1 a4.out e1;have g8:=hid (g5.out W3 u j a4.out p4 (hu.below a4.out));have p5:=f8.out j;obtain⟨a1,o8,rfl,-⟩:=hu;have d6:=p1.out j;have V:=k1.out j;clear e1;generalize (es.getD j []).length=lj at *;generalize yn bag es k j=s at *;generalize kM bag es k j=ov at *;generalize qM bag (es.getD j [])=pj at *;go_wp2_with fail
     refine g8.out.mono ?_;rintro e W4 ⟨v7,rfl,e8,m0⟩;have O:=hid (bt g9.out m0);have p6:=qK e8;have h9:=(qK (l:=pk) (by rw[<-a8.out];exact i9.out)).below (bt g9.out m0);have j1:=hid (Xv W4 _ v7 pk pj h9 (by rw[<-a8.out];exact e0) p6 p5);obtain⟨x0,x4,v8,-⟩:=p6;subst v8;clear e8 m0 h9 g8 c1;rw[<-a8.out]at V;generalize pj.length=m1 at *;generalize yT pk pj=sb at *;by_cases p7:j=k
     ·subst p7;rw[decide_eq_false Ss,Bool.false_and,Bool.false_and]at V;subst V;go_wp2_with fail
      go_roundw
      case rel=>exact⟨j+1,Oo,Gg,by rw[d6];simp,O⟩
      case measure=>simp[intOf];omega
     rw[decide_eq_true p7,Bool.true_and]at V;have x1:((j:Int) != (k:Int))=true:=by simp;omega
     cases sb
     ·rw[Bool.false_and]at V;subst V;go_wp2_with fail
      refine j1.out.mono ?_;rintro e w' ⟨rfl,h3⟩;subst w';go_wp2_with fail
      go_roundw
      case rel=>exact⟨j+1,Oo,Gg,by rw[d6];simp,O⟩
      case measure=>simp[intOf];omega
     rw[Bool.true_and]at V;by_cases p8:lp < m1
     ·rw[decide_eq_true p8,Bool.true_or]at V;subst V;have x2:(lp:Int) < (m1:Int):=Oo;go_wp2_with fail
      refine j1.out.mono ?_;rintro e w' ⟨rfl,h3⟩;subst w';go_wp2_with fail
      go_roundw
      case rel=>exact⟨j+1,Oo,Gg,by rw[d6];simp,O⟩
      case measure=>simp[intOf];omega
     rw[decide_eq_false p8,Bool.false_or]at V;have x2:¬((lp:Int) < (m1:Int)):=Oo;by_cases p9:j < k
     ·rw[decide_eq_true p9]at V;subst V;have x3:(j:Int) < (k:Int):=Oo;go_wp2_with fail
      refine j1.out.mono ?_;rintro e w' ⟨rfl,h3⟩;subst w';go_wp2_with fail
      go_roundw
      case rel=>exact⟨j+1,Oo,Gg,by rw[d6];simp,O⟩
      case measure=>simp[intOf];omega
     ·rw[decide_eq_false p9]at V;subst V;have x3:¬((j:Int) < (k:Int)):=Oo;go_wp2_with fail
      refine j1.out.mono ?_;rintro e w' ⟨rfl,h3⟩;subst w';go_wp2_with fail
      go_roundw
      case rel=>exact⟨j+1,Oo,Gg,by rw[d6];simp,O⟩
      case measure=>simp[intOf];omega
    ·obtain rfl:j=m:=Oo;have i2:¬((j:Int) < (j:Int)):=Oo;have f4:=j3.out k;have b0:=g6.out k;rw[<-v4.out]at f4 b0;generalize yn bag es k j=s at *;cases s
     ·have HE:=hid (b0 rfl);clear f4 b0
      have HF:Hid (Bl w W3/\ZR W3 w.heap.size/\DL W3 w.heap.size (.slice (some ⟨W0.heap.size,0,none⟩) 0 0) []/\RL W3 w.heap.size vp vs (za bag es (k+1))):=hid (by
       have hb:=bt d0.out g9.out;rw[HE.out];exact⟨a4.out,i7.out.below hb,i8.out.below hb,c8.out.below hb⟩)
      go_wp2_with fail
      go_roundw
      case rel=>exact⟨k+1,vp,vs,Oo,Gg,rfl,HF⟩
      case measure=>simp[intOf];omega
     ·have HE:=hid (f4 rfl);clear f4 b0;have hb:=bt d0.out g9.out;have q3:=hid (c8.out.below hb);have v9:=hid (i7.out.below hb);have w0:=hid (i8.out.below hb);have I:=q3.out.own;have w8:=j4.out k;have b7:=a4.out.size;have q4:=hid (qF (qB i9.out g9.out) d7.out.size);clear hb
      go_wp2_with (first
       |(at_builtin;refine wpList_append_own _ rfl _ _ 24 rfl w.heap.size 25 iS (.slice none 0 0) 1 24 Tryz.underlying24 hk t5 t6 t7 rfl Dd _ _ _ rfl (I.alloc _) ⟨W3.heap.size,0,none⟩ 1 1 [.slice a9 lp c9] rfl rfl ?ka1 ?ka2 ?ka3 ?ka4 ?ka5 ?_)|fail)
      try(case ka1=>exact qH _ _ _)
      case ka2=>first|rfl|(intro u hu;simp at hu;subst hu;rfl)
      case ka3=>unfold maxLen;omega
      case ka4=>omega
      case ka5=>exact bQ b7 Ss
      intro v' w5 M K _
      have HF:Hid (Bl w w5/\ZR w5 w.heap.size/\DL w5 w.heap.size (.slice (some ⟨W0.heap.size,0,none⟩) 0 0) []/\RL w5 w.heap.size v' (vs++[.slice a9 lp c9]) (za bag es (k+1))):=hid (by
       rw[HE.out];refine⟨qe b7 I a4.out K,v9.out.grow2 I K,w0.out.far I K,q3.out.step (u:=.slice a9 lp c9) ?_ M K⟩;rw[<-v3.out,<-a8.out];exact q4.out)
      clear M K I;go_wp2;go_roundw
      case rel=>exact⟨k+1,v',_,Oo,Gg,rfl,HF⟩
      case measure=>simp[intOf];omega
  ·obtain rfl:m=k:=Oo;have i1:¬((m:Int) < (m:Int)):=Oo;rw[l4.out]at c8;clear j3 g6 j4 j5 j6 g7 o4 f8 k0 g5 l4
   have h4:Hid (∀j,j < (zZ bag es).length->((zZ bag es).getD j []).length<=1099511627776):=hid λj hj=>by
    rw[kN (by rw[<-yL];exact hj)];exact bQ (JG _ _) (l2.out _)
   obtain⟨U,q6⟩:∃U,U=zZ bag es:=⟨_,rfl⟩;rw[<-q6]at c8 g2 HY l0 l1 g4 h4;clear q6;obtain⟨gP,cP,rfl,-,-⟩:=c8.out.get (i:=0) Oo
   have m2:Hid (∀W,RL W w.heap.size (.slice (some ⟨gP,0,none⟩) U.length cP) vs U->∀j,j < U.length->W.cell? ⟨gP,j,none⟩=some (vs.getD j undef)/\IS W (vs.getD j undef) (U.getD j [])):=hid λW hR j hj=>by
    obtain⟨g,c,e,h1,h2⟩:=hR.get hj;simp only[Value.slice.injEq,Option.some.injEq,Addr.mk.injEq,and_true,true_and]at e;obtain⟨rfl,rfl⟩:=e;exact⟨h1,h2⟩
   have m3:Hid (∀k,k < nb->zD ((qG bag U).take (k+1))=zD ((qG bag U).take k)++[⟨plN (λi=>decide (bag.getD k 0∈U.getD i [])) U.length,false,1⟩]):=hid λk hk=>XE (by rw[<-l6.out];exact hk);have q7:Hid (zD ((qG bag U).take nb)=zD (qG bag U)):=hid (by rw[l6.out,<-zh bag U,tL]);have q8:Hid (zD (qG bag U)++qZ U.length=yH bag U):=hid rfl;have k4:Hid (∀D∈yH bag U,zR U.length D):=hid (Ye g4);have h5:Hid (kR U.length false (yH bag U) y):=hid (Zw HY.out)
   have q9:Hid (∀k,k<=nb->(zD ((qG bag U).take k)).length=k):=hid λk hk=>by
    simp only[zD,List.length_map,List.length_take,zh];rw[<-l6.out];omega
   obtain⟨nP,m4⟩:∃n,n=U.length:=⟨_,rfl⟩;have x5:=hid m4;rw[<-m4]at m2 l1 g4 h4 m3 q8 k4 h5 g2 l0 c8 ⊢;clear m4 HY;have r0:Hid (Bl w W1/\ZR W1 w.heap.size/\DL W1 w.heap.size (.slice (some ⟨W0.heap.size,0,none⟩) 0 0) []/\RL W1 w.heap.size (.slice (some ⟨gP,0,none⟩) nP cP) vs U/\([]:List (Value×Dem)).map Prod.snd=zD ((qG bag U).take 0)/\([]:List (Value×Dem)).length=0):=hid ⟨d7.out,i7.out,i8.out,c8.out,rfl,rfl⟩;clear d7 i7 i8 c8;go_wp2_with fail
   go_loopw [5,74] (λv t wr=>∃(k:Nat) (vc:Value) (ps:List (Value×Dem)),k<=nb/\t=.int .i64 k/\vc=v/\Hid (Bl w wr/\ZR wr w.heap.size/\DL wr w.heap.size vc ps/\RL wr w.heap.size (.slice (some ⟨gP,0,none⟩) nP cP) vs U/\ps.map Prod.snd=zD ((qG bag U).take k)/\ps.length=k)) (λ_ t _=>nb - (intOf t).toNat)
   case atStart=>exact⟨0,_,[],nZ _,rfl,rfl,r0⟩
   case round=>
    clear r0;obtain⟨k,vc,ps,x7,rfl,rfl,hH⟩:=hrel;generalize wr=W2 at *;have d0:=hid hH.out.1;have m5:=hid hH.out.2.1;have m6:=hid hH.out.2.2.1;have m7:=hid hH.out.2.2.2.1;have m8:=hid hH.out.2.2.2.2.1;have f8:=hid hH.out.2.2.2.2.2;clear hH;by_cases r3:k < nb
    ·have i2:(k:Int) < (nb:Int):=Oo;obtain⟨b,o,rfl,e1⟩:=o3.out k r3;have c1:=U1 d0.out e1;have k5:=hid (m3.out k r3);obtain⟨p,hp⟩:∃p:Nat->Bool,p=λi=>decide (bag.getD k 0∈U.getD i []):=⟨_,rfl⟩;rw[<-hp]at k5;have r4:=hid hp;obtain⟨z,hz⟩:∃z,z=bag.getD k 0:=⟨_,rfl⟩;rw[<-hz]at c1 r4;clear hp e1 hz;go_upto_region 22 with fail
     have b9:=AT.new W2 (.slice none 0 0) false;have r5:Bl W2 (W2.alloc (.cells #[.slice none 0 0,.bool false,.int .i64 1] 53)):=(bM _ _).alloc (bK _) _;have HX:Hid (Bl W2 (W2.alloc (.cells #[.slice none 0 0,.bool false,.int .i64 1] 53))/\∃a3,AT (W2.alloc (.cells #[.slice none 0 0,.bool false,.int .i64 1] 53)) W2.heap.size a3 false/\(W2.alloc (.cells #[.slice none 0 0,.bool false,.int .i64 1] 53)).ownsRow W2.heap.size 3 1 a3 (plc p 0).length ((plc p 0).map (Value.int .i64))):=hid ⟨r5,_,b9,bG _ _ _ _⟩;clear b9 r5 c1;generalize W2.alloc (.cells #[.slice none 0 0,.bool false,.int .i64 1] 53)=W3 at *;go_wp2;go_loopw [81] (λt wr=>∃j:Nat,j<=nP/\t=.int .i64 j/\Hid (Bl W2 wr/\∃a3,AT wr W2.heap.size a3 false/\wr.ownsRow W2.heap.size 3 1 a3 (plc p j).length ((plc p j).map (Value.int .i64)))) (λt _=>nP - (intOf t).toNat)
     case atStart=>exact⟨0,nZ _,rfl,HX⟩
     case round=>
      obtain⟨j,v6,rfl,hH⟩:=hrel;clear HX;obtain⟨m9,a3,b9,I⟩:=hH.out;have O:=hid m9;have r6:=hid b9;have f7:=hid I;have e0:=xK p j;have d6:=m9.size;have t0:=b9.arr.cell 0 Oo;have t1:=b9.arr.cell 1 Oo;have t2:=b9.arr.cell 2 Oo;have f0:=b9.arr.free 0 Oo;simp only[f3]at t0 t1 t2;clear hH m9 b9 I;by_cases r7:j < nP
      ·have i3:(j:Int) < (nP:Int):=Oo;obtain⟨c2,hu⟩:=m2.out wr (m7.out.below O.out) j r7;have KH:Hid (Cl 16 #[vs.getD j undef,.int .i64 z] wr λe w'=>e=.returned (.bool (decide (z∈U.getD j [])))/\w'=wr):=hid (qU wr _ _ z hu (h4.out j r7));have r8:p j=decide (z∈U.getD j []):=by rw[r4.out]
       rw[<-r8]at KH;obtain⟨a7,c7,e7,-⟩:=hu;rw[e7]at c2 KH;clear r8 e7;generalize (U.getD j []).length=lj at *;by_cases n3:p j=true
       ·have e1:=hid (xi p j n3);rw[n3]at KH;have I:=f7.out
        go_wp2_with (first
         |(go_at_call 16;refine KH.out.mono ?_;rintro e w' ⟨rfl,h3⟩;subst w')
         |(at_builtin;refine wpList_append_own _ rfl _ _ 25 rfl W2.heap.size 3 i0 (.int .i64 0) 1 8 Tryz.underlying25 hi s9 t3 t4 rfl Dd _ _ _ rfl (I.alloc _) ⟨wr.heap.size,0,none⟩ 1 1 [.int .i64 j] rfl rfl ?kb1 ?kb2 ?kb3 ?kb4 ?kb5 ?_))
        case kb1=>exact qH _ _ _
        case kb2=>intro u hu;simp at hu;subst hu;rfl
        case kb3=>unfold maxLen;omega
        case kb4=>omega
        case kb5=>exact bQ d6 Ss
        intro v' w1 M K _;obtain⟨a6,c6,e6⟩:=kP M;obtain⟨⟨q0,q1⟩,k7,h6⟩:=r6.out.grow I M K;have h7:=qe d6 I O.out K;have HF:Hid (Bl W2 (w1.setCell ⟨W2.heap.size,0,none⟩ v')/\∃a3,AT (w1.setCell ⟨W2.heap.size,0,none⟩ v') W2.heap.size a3 false/\(w1.setCell ⟨W2.heap.size,0,none⟩ v').ownsRow W2.heap.size 3 1 a3 (plc p (j+1)).length ((plc p (j+1)).map (Value.int .i64))):=hid ⟨h7.setCell (bK _) _,v',k7,by rw[e1.out];simpa using h6⟩;clear M K I k7 h6 h7 t0 t1 t2 f0;subst e6;go_wp2;go_roundw
        case rel=>exact⟨j+1,Oo,Gg,HF⟩
        case measure=>simp[intOf];omega
       ·have r9:p j=false:=by simpa using n3
        have e1:=hid (zy p j r9);rw[r9]at KH;go_wp2_with (first|(go_at_call 16;refine KH.out.mono ?_;rintro e w' ⟨rfl,h3⟩;subst w'))
        go_roundw
        case rel=>exact⟨j+1,Oo,Gg,hid ⟨O.out,a3,r6.out,by rw[e1.out];exact f7.out⟩⟩
        case measure=>simp[intOf];omega
      ·obtain rfl:nP=j:=Oo;have i3:¬((nP:Int) < (nP:Int)):=Oo;obtain⟨a5,c5,e5,-⟩:=qK f7.out;subst e5;have a8:=hid (Xr p nP);have s1:=hid (bt d0.out O.out);generalize j0:(plc p nP).length=lp at *;have n4:=m6.out.below O.out;have hlen:=f8.out;have I:=n4.own;rw[hlen]at I;have b7:=s1.out.size
       go_wp2_with (first
        |(at_builtin;refine wpList_append_own _ rfl _ _ 51 rfl w.heap.size 53 iD (.agg #[.slice none 0 0,.bool false,.int .i64 0]) 3 40 Tryz.underlying51 hj n5 n6 n8 rfl Dd _ _ _ rfl (I.alloc _) ⟨wr.heap.size,0,none⟩ 1 1 [.slice a5 lp c5,.bool false,.int .i64 1] rfl rfl ?kc1 ?kc2 ?kc3 ?kc4 ?kc5 ?_)|fail)
       case kc2=>first|rfl|exact⟨rfl,rfl,rfl⟩|(intro u hu;simp at hu;rcases hu with rfl|rfl|rfl <;> rfl)
       case kc3=>unfold maxLen;omega
       case kc4=>omega
       case kc5=>exact bQ b7 Ss
       intro v' w3 M K _
       have s2:=n4.step (p:=(.slice a5 lp c5,⟨plN p nP,false,1⟩)) (by
        have:=qF f7.out d0.out.size;show wr.ownsRow w.heap.size 3 1 (.slice a5 lp c5) (plN p nP).length (vT (plN p nP));rw[<-a8.out,<-QO];exact this) (by rw[hlen];exact M) K
       have h7:=qe b7 I s1.out K
       have HF:Hid (Bl w w3/\ZR w3 w.heap.size/\DL w3 w.heap.size v' (ps++[(.slice a5 lp c5,⟨plN p nP,false,1⟩)])/\RL w3 w.heap.size (.slice (some ⟨gP,0,none⟩) nP cP) vs U/\(ps++[((.slice a5 lp c5:Value),(⟨plN p nP,false,1⟩:Dem))]).map Prod.snd=zD ((qG bag U).take (k+1))/\(ps++[((.slice a5 lp c5:Value),(⟨plN p nP,false,1⟩:Dem))]).length=k+1):=
        hid ⟨h7,(m5.out.below O.out).grow I K,s2,(m7.out.below O.out).other I K,by rw[mA,m8.out,k5.out];rfl,by rw[lA,hlen];rfl⟩
       clear s2 h7 M K I n4 t0 t1 t2 f0;go_wp2;go_roundw
       case rel=>exact⟨k+1,v',_,Oo,Gg,rfl,HF⟩
       case measure=>simp[intOf];omega
    ·obtain rfl:nb=k:=Oo;have i2:¬((nb:Int) < (nb:Int)):=Oo;have s3:Hid (Bl w W2/\ZR W2 w.heap.size/\DL W2 w.heap.size vc ps/\ps.map Prod.snd=zD (qG bag U)++qZ 0):=hid ⟨d0.out,m5.out,m6.out,by rw[m8.out,q7.out];simp[qZ]⟩;clear d0 m5 m6 m7 m8 f8 m3 m2;go_wp2_with fail
     go_loopw [5,103] (λv t wr=>∃(k:Nat) (vc:Value) (ps:List (Value×Dem)),k<=nP/\t=.int .i64 k/\vc=v/\Hid (Bl w wr/\ZR wr w.heap.size/\DL wr w.heap.size vc ps/\ps.map Prod.snd=zD (qG bag U)++qZ k)) (λ_ t _=>nP - (intOf t).toNat)
     case atStart=>exact⟨0,_,ps,nZ _,rfl,rfl,s3⟩
     case round=>
      clear s3;obtain⟨k,vc,ps,y0,rfl,rfl,hH⟩:=hrel;generalize wr=W4 at *;have O:=hid hH.out.1;have s4:=hid hH.out.2.1;have h8:=hid hH.out.2.2.1;have j2:=hid hH.out.2.2.2
      have a8:Hid (ps.length=nb+k):=hid (by
       have:=congrArg List.length hH.out.2.2.2;rw[lM,lA,<-q7.out,q9.out nb (bK _)]at this;rw[this];simp[qZ])
      clear hH;by_cases u6:k < nP
      ·have i3:(k:Int) < (nP:Int):=Oo;have I:=h8.out.own;have hlen:=a8.out;rw[hlen]at I;have b7:=O.out.size
       go_wp2_with (first
        |(at_builtin;refine wpList_append_own _ rfl _ _ 51 rfl w.heap.size 53 iD (.agg #[.slice none 0 0,.bool false,.int .i64 0]) 3 40 Tryz.underlying51 hj n5 n6 n8 rfl Dd _ _ _ rfl ((I.alloc _).alloc _) ⟨W4.heap.size+1,0,none⟩ 1 1 [.slice (some ⟨W4.heap.size,0,none⟩) 1 1,.bool false,.int .i64 0] rfl rfl ?kd1 ?kd2 ?kd3 ?kd4 ?kd5 ?_)|fail)
       case kd1=>exact qEp _ _ _ _
       case kd2=>first|rfl|exact⟨rfl,rfl,rfl⟩|(intro u hu;simp at hu;rcases hu with rfl|rfl|rfl <;> rfl)
       case kd3=>unfold maxLen;omega
       case kd4=>omega
       case kd5=>exact bQ b7 (by simp;omega)
       intro v' w1 i4 a2 _;have d9:Bl W4 (W4.alloc (.cells #[.int .i64 k] 3)):=(bM _ _).alloc (bK _) _;have s5:(W4.alloc (.cells #[.int .i64 k] 3)).ownsRow w.heap.size 3 1 (.slice (some ⟨W4.heap.size,0,none⟩) 1 1) 1 (vT [k]):=World.ownsRow_lit W4 #[.int .i64 k] 1 b7 Dd rfl
       have HF:Hid (Bl w w1/\ZR w1 w.heap.size/\DL w1 w.heap.size v' (ps++[(.slice (some ⟨W4.heap.size,0,none⟩) 1 1,⟨[k],false,0⟩)])/\(ps++[((.slice (some ⟨W4.heap.size,0,none⟩) 1 1:Value),(⟨[k],false,0⟩:Dem))]).map Prod.snd=zD (qG bag U)++qZ (k+1)):=
        hid ⟨qe (bQ b7 d9.size) (qB h8.out.own d9) (bt O.out d9) a2,(s4.out.below d9).grow (qB h8.out.own d9) a2,(h8.out.below d9).step (p:=(.slice (some ⟨W4.heap.size,0,none⟩) 1 1,⟨[k],false,0⟩)) s5 (by rw[hlen];exact i4) a2,by rw[mA,j2.out,jS,List.append_assoc];rfl⟩
       clear i4 a2 d9 s5 I;go_wp2;go_roundw
       case rel=>exact⟨k+1,v',_,Oo,Gg,rfl,HF⟩
       case measure=>simp[intOf];omega
      ·obtain rfl:nP=k:=Oo;have i3:¬((nP:Int) < (nP:Int)):=Oo;rw[q8.out]at j2;have KC:=hid (jR nP false ps y l1 g4 (by rw[a8.out];omega) (by rw[j2.out];exact k4.out) (by rw[j2.out];exact h5.out) vc W4 h8.out.dp);go_wp2_with fail
       refine KC.out.mono ?_;rintro e w5 ⟨v5,rfl,s6,s7⟩;have KS:=hid (jA w5 v5 nP y g4 s6 l0.out);rw[g2.out]at KS;obtain⟨a5,c5,e5,-⟩:=s6;subst e5;have w2:=hid s7;clear s7 KC;go_wp2_with fail
       refine KS.out.mono ?_;rintro e w6 ⟨rfl,k8⟩;have i5:=bt w2.out k8;have hT:=(s4.out.below i5).two;have e1:=hT.1;have e2:=hT.2.1;have e3:=hT.2.2.1;have e4:=hT.2.2.2;generalize hq1:(wdR es bag).num=qn at *;generalize hq2:((wdR es bag).den:Int)=qd at *;have w4:=hid hq1;have w7:=hid hq2;clear hq1 hq2;have HQ:=hid (And.intro (bt O.out i5) (hT.set qn qd));clear k8 i5 hT;go_wp2;have r1:=HQ.out.2.1;have r2:=HQ.out.2.2.1;refine bodyPost_ret (v:=.agg #[.int .i64 qn,.int .i64 qd]) (by simp[results,Tryz.results75,go_sem,r1,r2]) rfl ⟨by rw[w4.out,w7.out],(HQ.out.1.setCell (bK _) _).setCell (bK _) _⟩
end Go.Proofs.YtkaipapdlnojiaaGreat
