import Derived.Test.YtcnfapnfmnolbaaGreatRq26
import Derived.Test.YtcnfapnfmnolbaaGreatRq30
set_option maxHeartbeats 40000000
set_option maxRecDepth 1000000
namespace Go.Proofs.YtcnfapnfmnolbaaGreat
open Go.RowKit Meet
variable {vs ws:LI}{rows:LL}{tl:List TbV}{xs:List Value}{B g g0 g1 g2 i j k n q:Nat}{f:Nat->Nat}{t:TbV}{v x y:Value}{W W' w:World}
theorem qBo{M O:TypeId}{v1 v2:Value}{n1 n2:Nat}{ys:List Value}(h1:W.ownsRow B M 1 v1 n1 xs)(h2:W.ownsRow B O 1 v2 n2 ys)(K:M≠O):v1.ownBlock=none∨v1.ownBlock≠v2.ownBlock:=by
 rcases h1.2 with ⟨rfl,-⟩|⟨g,cap,cur,rfl,-,hg,-⟩;exact Or.inl rfl;refine Or.inr λe=>?_;rcases h2.2 with ⟨rfl,-⟩|⟨g',U,V,rfl,-,I,-⟩;cases e
 simp only[Value.ownBlock,Option.some.injEq]at e;subst e;rw[hg]at I;simp only[Option.some.injEq,Obj.cells.injEq]at I;exact K I.2.1
theorem RtS.step{M w3:World}{c:Nat}{vp vb:Value}{rl:List LL}{cs:List (Option Addr)}{ca:Option Addr}{o:Obj}{np:Nat}(hB:Bl w M)(a3:BrX M w.1.size sn sn)(V:BrX M (w.1.size+2) vp vb)(a4:M.ownsRow w.1.size 3 1 vp np xs)(O:RtS M w.1.size (w.1.size+2) vb rl cs)
 (hq:Bl M W) (hT:TrO M.1.size W rows ca) (hg:(W.alloc o).grownBy w3 vb.ownBlock) (I:w3.ownsRow w.1.size 111 1 (.slice (some (az g 0)) (rl.length+1) c) (rl.length+1) (cs.map Value.pointer++[.pointer ca])) (a5:vb.ownBlock=some g∨g=(W.alloc o).1.size):
 Bl w (w3.setCell (az (w.1.size+2) 1) (.slice (some (az g 0)) (rl.length+1) c))/\BrX (w3.setCell (az (w.1.size+2) 1) (.slice (some (az g 0)) (rl.length+1) c)) w.1.size sn sn/\BrX (w3.setCell (az (w.1.size+2) 1) (.slice (some (az g 0)) (rl.length+1) c)) (w.1.size+2) vp (.slice (some (az g 0)) (rl.length+1) c)/\(w3.setCell (az (w.1.size+2) 1) (.slice (some (az g 0)) (rl.length+1) c)).ownsRow w.1.size 3 1 vp np xs/\RtS (w3.setCell (az (w.1.size+2) 1) (.slice (some (az g 0)) (rl.length+1) c)) w.1.size (w.1.size+2) (.slice (some (az g 0)) (rl.length+1) c) (rl++[rows]) (cs++[ca]):=by
 have U:=qB O.own hq;have x4:=(a3.below hq).grown U Dd hg;have x5:=(V.below hq).grown U Dd hg;have a6:g≠w.1.size+2:=λe=>(own_ne I ⟨_,x5⟩ Dd) (by rw[e];rfl);refine⟨?_,?_,?_,?_,RtS.push O hB.size V.lt hq hT hg I a5 a6⟩;exact((qD (bt hB hq) o).grown hg (qD (bt hB hq) o).size λk K=>(O.own.lt k K).1).setCell (by show w.1.size<=w.1.size+2;omega) _;exact(bD _ _ _ _ (by show w.1.size≠w.1.size+2;omega)).trans x4;unfold BrX;rw[bI _ _ _ _ _ _ x5];rfl;have h1:=(qB a4 hq).alloc o;have h2:w3.ownsRow w.1.size 3 1 vp np xs:=qC h1 λk K=>hg.block k (h1.lt k K).2 (λe=>by
  rcases qBo h1 (U.alloc o) (Dd)with h3|h3;rw[h3]at K;exact absurd K Ss;exact h3 (K.trans e))
 refine qC h2 λk K=>bD _ _ _ _ λe2=>?_;exact own_ne h2 ⟨_,x5⟩ Dd (by rw[K];exact congrArg some (by exact e2.symm))
theorem TR.keepB{D:LI->Prop}{N0 N1:LI->LI}{f:LI->Nat}{g0 g1:LI->Value}(h:TR W B D N0 N1 f g0 g1)(K:BrX W k x y)(M:∀j,j≠k->W'.1[j]?=W.1[j]?):TR W' B D N0 N1 f g0 g1:=
 ⟨λp I=>(M _ λe=>by
  have:=(h.blk p I).symm.trans (e ▸ K);simp at this).trans (h.blk p I),h.low,λp I=>qC (h.o0 p I) λg O=>M g λe=>own_ne (h.o0 p I) ⟨_,K⟩ Dd (by rw[O,e]),λp I=>qC (h.o1 p I) λg O=>M g λe=>own_ne (h.o1 p I) ⟨_,K⟩ Dd (by rw[O,e]),h.inj,h.a0,h.a1⟩
theorem TrO.keepB{c:Option Addr}(h:TrO B W rows c)(I:BrX W k x y)(K:∀j,j≠k->W'.1[j]?=W.1[j]?):TrO B W' rows c:=by
 rcases h with h|⟨M,D,N,f,g0,g1,O,U,V,h5⟩;exact Or.inl h;exact Or.inr ⟨M,D,N,f,g0,g1,O,U,V.keepB I K,h5⟩
theorem JW(w:World)(vt vo:Value)(tl:List TbV)(o:LI)(h:ITs w vt tl)(ho:IS w vo o)(hl:tl.length<=1000)(k7:o.length<=1000)(k8:∀t∈tl,qU t=true):
 Cl 107 #[vt,vo] w λe w'=>∃(g c:Nat) (vb:Value) (cs:List (Option Addr)),e=.returned (.agg #[.slice (some (az g 0)) 0 c,vb])/\w'.ownsRow w.1.size 3 1 (.slice (some (az g 0)) 0 c) 0 []/\w'.ownsRow w.1.size 111 1 vb tl.length (cs.map Value.pointer)/\cs.length=tl.length/\(∀t,t<tl.length->TrO w.1.size w' ((tl.map λt=>(sdT o t).rows).getD t []) (cs.getD t none))/\Bl w w':=by
 obtain⟨i0,hi,n4,n5,n6⟩:=info_parts Tryz.infoInt;obtain⟨iP,hj,n7,n8,n9⟩:=info_parts Tryz.infoTriP;obtain⟨o3,ct,rfl,hc⟩:=h;have d8:Hh (∀j,j<tl.length->qV (tl.getD j qA).vs=true/\TvJ (tl.getD j qA)):=ay λj hj=>by
  have h1:=k8 (tl.getD j qA) (by rw[gD,gE hj];exact gM _);exact⟨(qZ h1).1,kF h1⟩
 have HC:Hh (∀W,Bl w W->∀j,j<tl.length->∃b oo,o3=some (az b oo)/\TabAt W b (oo+j*3) (tl.getD j qA)):=ay λW hW j hj=>by
  rcases hc with h0|⟨b,oo,rfl,h⟩;omega;exact⟨b,oo,rfl,(h j hj).below hW⟩
 obtain⟨ao,co,rfl,k9⟩:=ho;have d9:Hh (∀W,Bl w W->∀j,j<o.length->∃b oo,ao=some (az b oo)/\W.cell? (az b (oo+j))=some (ai (o.getD j 0))):=ay λW hW j hj=>by
  rcases k9 with h0|⟨b,oo,rfl,h⟩;omega;exact⟨b,oo,rfl,xL hW (h j hj)⟩
 obtain⟨RL,b8⟩:=Ex (λj=>(tl.take j).map λt=>(sdT o t).rows:Nat->List LL);have l0:Hh (RL 0=[]):=ay (by rw[b8];rfl);have e3:Hh (∀j,j<tl.length->RL (j+1)=RL j++[(sdT o (tl.getD j qA)).rows]):=ay λj hj=>by
  rw[b8];show(tl.take (j+1)).map _=(tl.take j).map _++_;rw[tA,gE hj,mA,gD,gE hj];rfl
 have a8:Hh (∀j,j<=tl.length->(RL j).length=j):=ay λj hj=>by rw[b8];show((tl.take j).map _).length=j;rw[lM,bW];omega
 have i7:Hh (RL tl.length=tl.map λt=>(sdT o t).rows):=ay (by rw[b8];show(tl.take tl.length).map _=_;rw[tL]);have e4:Hh (∀vs i,i<o.length->plO vs (o.take (i+1))=plO vs (o.take i)++(if o.getD i 0∈vs then [(bsQ vs (o.getD i 0):Int)] else [])):=ay λvs i hi=>by rw[qy hi,qDo]
 have b9:Hh (∀vs,plO vs (o.take o.length)=plO vs o):=ay λvs=>by rw[tL]
 have e5:Hh (∀vs i,(plO vs (o.take i)).length<=i):=ay λvs i=>by
  unfold plO;rw[lM];exact bM (List.length_filter_le _ _) (by rw[bW];omega)
 have i8:Hh (∀(t:TbV),t.vs.Pairwise (·< ·)->srt (zq t.rows (plO t.vs o))=(sdT o t).rows):=ay λt ht=>by rw[qDp ht];rfl
 obtain⟨n,hn⟩:=Ex tl.length;rw[<-hn]at hl HC d8 e3 a8 i7 ⊢;clear hn hc k8 b8 k9;have o4:=ay k7;obtain⟨no,l1⟩:=Ex o.length;rw[<-l1]at k7 d9 e4 b9 ⊢;clear l1;obtain⟨W1,i9⟩:=Ex (((w.alloc (.cells #[sn,sn] 143)).alloc (.cells #[] 3)).alloc (.cells #[.slice (some (az (w.1.size+1) 0)) 0 0,sn] 143));have a9:Hh (Bl w W1/\BrX W1 w.1.size sn sn/\BrX W1 (w.1.size+2) (.slice (some (az (w.1.size+1) 0)) 0 0) sn/\W1.ownsRow w.1.size 3 1 (.slice (some (az (w.1.size+1) 0)) 0 0) 0 []/\RtS W1 w.1.size (w.1.size+2) sn [] []):=ay (by
  rw[i9];have b1:Bl w (w.alloc (.cells #[sn,sn] 143)):=qD (bJ _ _) _;have b2:Below (w.alloc (.cells #[sn,sn] 143)).1.size (w.alloc (.cells #[sn,sn] 143)) ((w.alloc (.cells #[sn,sn] 143)).alloc (.cells #[] 3)):=qD (bJ _ _) _;have b3:∀o,Below ((w.alloc (.cells #[sn,sn] 143)).alloc (.cells #[] 3)).1.size ((w.alloc (.cells #[sn,sn] 143)).alloc (.cells #[] 3)) (((w.alloc (.cells #[sn,sn] 143)).alloc (.cells #[] 3)).alloc o):=λo=>qD (bJ _ _) _;refine⟨bt b1 (bt b2 (b3 _)),((BrX.new w _ _).below b2).below (b3 _),?_,?_,⟨oN _ _ _ _,rfl,λt ht=>by simp at ht⟩⟩;have:=BrX.new ((w.alloc (.cells #[sn,sn] 143)).alloc (.cells #[] 3)) (.slice (some (az (w.1.size+1) 0)) 0 0) sn;rw[World.size_alloc,World.size_alloc]at this;exact this;have:=oM (w.alloc (.cells #[sn,sn] 143)) (e:=3) (size:=1) (base:=w.1.size) #[] 0 Ss Dd rfl;rw[World.size_alloc]at this;exact qB this (b3 _))
 go_enter Tryz.func107,Tryz.ntmps107;go_upto_region 2 with fail;rw[<-i9];clear i9;go_wp2_with fail;go_loopw [17] (λt wr=>∃(j:Nat),j<=n/\t=ai j/\Hh (∃vb cs,Bl w wr/\BrX wr w.1.size sn sn/\BrX wr (w.1.size+2) (.slice (some (az (w.1.size+1) 0)) 0 0) vb/\wr.ownsRow w.1.size 3 1 (.slice (some (az (w.1.size+1) 0)) 0 0) 0 []/\RtS wr w.1.size (w.1.size+2) vb (RL j) cs)) (λt _=>n-(intOf t).toNat);exact⟨0,nZ _,rfl,ay ⟨_,[],a9.o.1,a9.o.2.1,a9.o.2.2.1,a9.o.2.2.2.1,by rw[l0.o];exact a9.o.2.2.2.2⟩⟩;clear a9 l0;obtain⟨j,j0,rfl,V⟩:=hrel;obtain⟨vb,cs,hB,l3,l4,l5,l6⟩:=V.o;have HB:=ay hB;have O:=ay l3;have b0:=ay l4;have e6:=ay l5;have a3:=ay l6;clear V hB l3 l4 l5 l6;by_cases j1:j<n
 ·have i1:(j:Int)<(n:Int):=Oo;obtain⟨b,oo,ea,v0,v1,v2,c0,c1,c2,hI⟩:=HC.o wr HB.o j j1;subst ea;obtain⟨g7,l7⟩:=d8.o j j1;have l8:=ay (e3.o j j1);have j2:=a8.o j j0;generalize tl.getD j qA=tb at *;have c7:=ay (xJ g7);have c8:=ay l7;obtain⟨W3,b7⟩:=Ex (wr.alloc (.cells #[v0,v1,v2] 61));have j3:Bl wr W3:=by rw[b7];exact(bJ _ _).alloc (nR _) _
  have e7:Hh (TX W3 wr.1.size v0 v1 v2):=ay (by rw[b7];exact TX.made _ _ _ _);have j4:=ay (hI.below j3);have e8:=ay j3;obtain⟨a0,k0,e0,-⟩:=hI.vs;obtain⟨a1,k1,e1,-⟩:=hI.rows;obtain⟨a2,k2,e2,-⟩:=hI.ws;subst e0 e1 e2;clear hI g7 l7 j3 HC d8;have KB:Hh (∀W v,Bl W3 W->Cl 129 #[.slice a0 tb.vs.length k0,ai v] W λe w'=>e=.returned (.tuple #[ai (bsQ tb.vs v),.bool (decide (v∈tb.vs))])/\∃d,w'=W.drewN d):=ay λW v hW=>by
   have:=QQ W (.slice a0 tb.vs.length k0) tb.vs v (j4.o.below hW).vs (by have:=c8.o.vs;omega) (uW (uZ c7.o));rw[qFH c7.o]at this;exact this
  have e9:Hh (∀W v,Bl W3 W->IS W v (plO tb.vs o)->Cl 115 #[.slice a1 tb.rows.length k1,v] W λe w'=>∃v' uo,e=.returned v'/\RQ w' W.1.size v' uo (sdT o tb).rows/\Bl W w'):=ay λW v hW hv=>by
   have:=Q5 W (.slice a1 tb.rows.length k1) v tb.rows (plO tb.vs o) (j4.o.below hW).rows hv (by have:=c8.o.n;omega) (by have h1:=e5.o tb.vs no;rw[b9.o]at h1;omega) (λr hr q hq=>by rw[c8.o.len r hr];exact qGU c7.o q hq);rw[i8.o tb c7.o]at this;exact this
  have KT:Hh (∀W v uo,RQ W W3.1.size v uo (sdT o tb).rows->Bl W3 W->Cl 79 #[v] W λe w'=>∃c,e=.returned (.pointer c)/\TrO W3.1.size w' (sdT o tb).rows c/\Bl W w'):=ay λW v uo hQ hW=>by
   refine(ZK W v (sdT o tb).rows (hQ.rs.iss (bJ _ _)) (vO o tb).sl (bM (km o tb) (by have:=c8.o.n;omega)) (λr hr=>by rw[(vO o tb).len r hr];exact bM (vE _ _) o4.o)).mono ?_;rintro e w' ⟨c,rfl,h1,h2⟩;refine⟨c,rfl,?_,h2⟩;rcases h1 with ⟨h3,h4⟩|⟨h3,root,h4,D,N,f,g0,g1,h5,h6,h7,h8,h9⟩;exact Or.inl ⟨h3,h4⟩;exact Or.inr ⟨h3,D,N,f,g0,g1,by rw[h7];exact h4,h5,h6.base hW.size,h8⟩
  have g8:Hh (∀i,i<no->plO tb.vs (o.take (i+1))=plO tb.vs (o.take i)++(if o.getD i 0∈tb.vs then [(bsQ tb.vs (o.getD i 0):Int)] else [])):=ay λi hi=>e4.o tb.vs i hi;have g9:=ay (b9.o tb.vs);have i3:Hh (∀i,(plO tb.vs (o.take i)).length<=i):=ay λi=>e5.o tb.vs i;have o5:W3.1.size<=W3.1.size:=nR _;generalize tb.ws.length=l2 at *;obtain⟨nr,l9⟩:=Ex tb.rows.length;rw[<-l9]at e9 e7 b7 c1;clear l9;obtain⟨n0,m0⟩:=Ex tb.vs.length;rw[<-m0]at KB e7 b7 c0;clear m0;obtain⟨SR,m1⟩:=Ex ((sdT o tb).rows);rw[<-m1]at e9 KT l8;clear m1 e3 e4 b9 e5 i8 c8 c7 j4 a8 o5;go_upto_region 5 with fail;rw[<-b7];clear b7 c0 c1 c2;generalize wr=wo at *;go_wp2_with fail;go_loopw [8,23] (λv8 t wr=>∃(i:Nat) (vq:Value),i<=no/\t=ai i/\vq=v8/\Hh (Bl W3 wr/\wr.ownsRow W3.1.size 3 1 vq (plO tb.vs (o.take i)).length ((plO tb.vs (o.take i)).map ai))) (λ_ t _=>no-(intOf t).toNat);exact⟨0,_,nZ _,rfl,rfl,ay ⟨bJ _ _,oN _ _ _ _⟩⟩;obtain⟨i,vq,p3,rfl,rfl,V⟩:=hrel;by_cases i4:i<no
  ·have i2:(i:Int)<(no:Int):=Oo;obtain⟨bo,qo,ea,e1⟩:=d9.o wr (bt (bt HB.o e8.o) V.o.1) i i4;subst ea;have f7:=ay (KB.o wr (o.getD i 0) V.o.1);have d0:=(e7.o.below V.o.1).c0;have f8:=ay (g8.o i i4);have o6:=i3.o i;generalize o.getD i 0=ov at *;by_cases U:ov∈tb.vs
   ·rw[decide_eq_true U]at f7;rw[if_pos U]at f8;generalize bsQ tb.vs ov=bq at *;clear U;obtain⟨pl,c9⟩:=Ex ((plO tb.vs (o.take i)).length);have i5:=ay c9;rw[<-c9]at o6;clear c9;go_wp2_with (first
     |(go_at_call 129;refine f7.o.mono ?_;rintro e w5 ⟨rfl,d5,rfl⟩;have j5:(wr.drewN d5).ownsRow W3.1.size 3 1 vq pl ((plO tb.vs (o.take i)).map ai):=(by rw[i5.o];exact V.o.2);have j6:=below_drewN V.o.1 d5;have m2:=j6.size)
     |(at_builtin;refine wpList_append_lies _ rfl _ _ 24 rfl W3.1.size 3 i0 (ai 0) 1 8 Tryz.underlying24 hi n4 n5 n6 rfl Dd vq _ _ rfl (j5.alloc _) (az _ 0) 1 1 [ai bq] rfl rfl (qH _ _ _) (λu hu=>by simp at hu;subst hu;rfl) Dd Um Oo (bM m2 Ss) _ rfl ?_;intro g6 o7 w6 d1 a6 m3 m4)
     |fail)
    have HN:Hh (Bl W3 w6/\w6.ownsRow W3.1.size 3 1 (.slice (some (az g6 0)) (pl+1) o7) (plO tb.vs (o.take (i+1))).length ((plO tb.vs (o.take (i+1))).map ai)):=ay ⟨grB (qD j6 _) (j5.alloc _) a6,by rw[f8.o,lA,lS,mA,<-i5.o];exact d1⟩;clear d1 a6 m3 m4 j5 j6 m2;go_roundw;exact⟨i+1,_,Oo,Gg,rfl,HN⟩;exact Im
   rw[decide_eq_false U]at f7;rw[if_neg U,List.append_nil]at f8;clear U;go_wp2_with (first|(go_at_call 129;refine f7.o.mono ?_;rintro e w5 ⟨rfl,d5,rfl⟩)|fail);go_roundw;exact⟨i+1,_,Oo,Gg,rfl,ay ⟨below_drewN V.o.1 _,by rw[f8.o];exact V.o.2⟩⟩;exact Im
  obtain rfl:i=no:=Oo;have i2:¬((i:Int)<(i:Int)):=Oo;rw[g9.o]at V;have d2:=(b0.o.below e8.o).below V.o.1;have i6:=e7.o.below V.o.1;have r0:wr.drew.cell? (az (w.1.size+1+1) 1)=some vb:=d2.c1;have r1:wr.drew.cell? (az wo.1.size 1)=some (.slice a1 nr k1):=i6.c1;have k3:=ay d2;have o8:Bl wr wr.drew:=(bJ _ _).drew;have m5:=ay (e9.o wr.drew vq V.o.1.drew (qS V.o.2));have f9:Hh (Bl wo wr):=ay (bt e8.o V.o.1);have m6:W3.1.size<=wr.1.size:=V.o.1.size;have p4:w.1.size<=wo.1.size:=HB.o.size;have m7:wo.1.size<=W3.1.size:=e8.o.size;have d3:Hh (∀W,Bl wo W->W.ownsRow w.1.size 111 1 vb j (cs.map Value.pointer)):=ay λW hW=>by have:=(a3.o.below hW).own;rw[j2]at this;exact this
  have m8:Hh (∀W v uo,RQ W wr.1.size v uo SR->Bl wr W->Cl 79 #[v] W λe w'=>∃c,e=.returned (.pointer c)/\TrO wo.1.size w' SR c/\Bl W w'):=ay λW v uo h1 h2=>(KT.o W v uo (h1.base m6) (bt V.o.1 h2)).mono λe w' ⟨c,h3,h4,h5⟩=>⟨c,h3,by
   rcases h4 with h4|⟨h4,D,N,f,g0,g1,h6,h7,h8,h9⟩;exact Or.inl h4;exact Or.inr ⟨h4,D,N,f,g0,g1,h6,h7,h8.base m7,h9⟩,h5⟩
  have g4:Hh (∀W,Bl wr W->W.cell? (az (w.1.size+1+1) 1)=some vb):=ay λW hW=>(k3.o.below hW).c1;clear d2 i6 e9 KT KB d9 g8 g9 i3;go_upto_region 13 with fail;go_region_law (first
   |(refine step_append_lies _ Fl _ _ _ Fl w.1.size 111 iP (.pointer none) 1 8 Tryz.underlying141 hj n7 n8 n9 rfl Dd vb j _ Fl ((d3.o _ (bt f9.o I)).alloc _) (az g5.1.size 0) 1 1 [.pointer m9] Fl Fl (qH _ _ _) (λu hu=>by simp at hu;subst hu;rfl) Dd Um Oo (by have:=I.size;simp;omega) _ rfl ?_;intro a4 K a5 a7 M d4 k4;have d6:=(k3.o.below I).grown (d3.o _ (bt f9.o I)) Dd M;have o9:a5.cell? (az (w.1.size+1+1) 1)=some vb:=d6.c1;have f48:a5.frozen? (az (w.1.size+1+1) 1)=false:=d6.free 1)
   |(go_simp;go_at_call 115;refine m5.o.mono ?_;rintro e k5 ⟨v45,p1,rfl,n1,k6⟩;have d7:Bl wr k5:=bt o8 k6;have p5:=g4.o k5 d7)
   |(go_simp;go_at_call 79;refine(m8.o k5 v45 p1 n1 d7).mono ?_;rintro e g5 ⟨m9,rfl,n2,n3⟩;have I:Bl wr g5:=bt d7 n3;have p6:=g4.o g5 I;have p2:∀ob,(g5.alloc ob).cell? (az (w.1.size+1+1) 1)=some vb:=λob=>g4.o _ (qD I ob))
   |fail)
  all_goals(
   have HN:Hh (Bl w (a5.setCell (az (w.1.size+2) 1) (.slice (some (az a4 0)) (j+1) K))/\BrX (a5.setCell (az (w.1.size+2) 1) (.slice (some (az a4 0)) (j+1) K)) w.1.size sn sn/\BrX (a5.setCell (az (w.1.size+2) 1) (.slice (some (az a4 0)) (j+1) K)) (w.1.size+2) (.slice (some (az (w.1.size+1) 0)) 0 0) (.slice (some (az a4 0)) (j+1) K)/\(a5.setCell (az (w.1.size+2) 1) (.slice (some (az a4 0)) (j+1) K)).ownsRow w.1.size 3 1 (.slice (some (az (w.1.size+1) 0)) 0 0) 0 []/\RtS (a5.setCell (az (w.1.size+2) 1) (.slice (some (az a4 0)) (j+1) K)) w.1.size (w.1.size+2) (.slice (some (az a4 0)) (j+1) K) (RL (j+1)) (cs++[m9])):=ay (by
    rw[l8.o];have:=RtS.step (rl:=RL j) HB.o O.o b0.o e6.o a3.o (bt f9.o I) n2 M (by rw[j2];exact a7) d4;rw[j2]at this;exact this))
  all_goals clear HB O b0 e6 a3 V f9 d3 m8 g4 k3 a7 M d4 k4 d6 o9 f48
  all_goals try simp only[Exit.inBlock,Exit.then]
  all_goals go_wp2_with fail
  all_goals go_roundw
  all_goals first
   |exact⟨j+1,Oo,Gg,ay ⟨_,_,HN.o⟩⟩
   |(simp[intOf];omega)
 obtain rfl:j=n:=Oo;have i1:¬((j:Int)<(j:Int)):=Oo;obtain⟨ab,cb,eb⟩:=xY a3.o.own;rw[a8.o j j0]at eb;subst eb;have hW:∀u1 u2,∀q,q≠w.1.size->((wr.setCell (az w.1.size 0) u1).setCell (az w.1.size 1) u2).1[q]?=wr.1[q]?:=λu1 u2 q hq=>by rw[bD _ _ _ _ (by exact hq),bD _ _ _ _ (by exact hq)]
 have HF:Hh (∀u1 u2,((wr.setCell (az w.1.size 0) u1).setCell (az w.1.size 1) u2).ownsRow w.1.size 3 1 (.slice (some (az (w.1.size+1) 0)) 0 0) 0 []/\((wr.setCell (az w.1.size 0) u1).setCell (az w.1.size 1) u2).ownsRow w.1.size 111 1 (.slice ab j cb) j (cs.map Value.pointer)/\cs.length=j/\(∀t,t<j->TrO w.1.size ((wr.setCell (az w.1.size 0) u1).setCell (az w.1.size 1) u2) ((tl.map λt=>(sdT o t).rows).getD t []) (cs.getD t none))/\Bl w ((wr.setCell (az w.1.size 0) u1).setCell (az w.1.size 1) u2)):=ay λu1 u2=>by
  have h0:=a3.o.own;have h1:=a3.o.len;have h2:=a3.o.el;rw[a8.o j j0]at h0 h1 h2;rw[i7.o]at h2;exact⟨y9 e6.o O.o Dd,y9 h0 O.o Dd,h1,λt ht=>(h2 t ht wr λ_ _ _ _=>rfl).keepB O.o (hW u1 u2),(HB.o.setCell (by show _<=w.1.size;omega) _).setCell (by show _<=w.1.size;omega) _⟩
 have r0:wr.cell? (az (w.1.size+1+1) 0)=some (.slice (some (az (w.1.size+1) 0)) 0 0):=b0.o.c0;have r1:wr.cell? (az (w.1.size+1+1) 1)=some (.slice ab j cb):=b0.o.c1;have r2:wr.cell? (az w.1.size 0)=some sn:=O.o.c0;have r3:wr.cell? (az w.1.size 1)=some sn:=O.o.c1;have r4:wr.frozen? (az w.1.size 0)=false:=O.o.free 0;have r5:wr.frozen? (az w.1.size 1)=false:=O.o.free 1;clear hW a3 i7 a8 e3 d8 HC HB O b0 e6 e5 i8 b9 e4 d9;go_wp2_with fail;refine bodyPost_ret (v:=.agg #[.slice (some (az (w.1.size+1) 0)) 0 0,.slice ab j cb]) (by simp[results,Tryz.results107,go_sem,r2,r3]) rfl ?_;obtain⟨h1,h2,h3,h4,h5⟩:=HF.o (.slice (some (az (w.1.size+1) 0)) 0 0) (.slice ab j cb);exact⟨_,_,_,rfl,h1,cs,h2,h3,λt ht=>(by have:=h4 t ht;rw[gD,bK,gD]at this;exact this),h5⟩
theorem jk(w:World)(vt:Value)(tl:List TbV)(h:ITs w vt tl)(hl:tl.length<=1099511627776)(hs:∀t∈tl,TvS t):
 Cl 53 #[vt] w λe w'=>e=.returned (.bool (tl.all qU))/\Bl w w':=by
 obtain⟨a9,ct,rfl,hc⟩:=h;have HC:Hh (∀W,Bl w W->∀j,j<tl.length->∃b oo,a9=some (az b oo)/\TabAt W b (oo+j*3) (tl.getD j qA)):=ay λW hW j U=>by
  rcases hc with h0|⟨b,oo,rfl,h⟩;omega;exact⟨b,oo,rfl,(h j U).below hW⟩
 have HR:Hh (∀j,j<tl.length->TvS (tl.getD j qA)):=ay λj U=>hs _ (by rw[gD,gE U];exact gM _);obtain⟨res,I⟩:=Ex (tl.all qU);have HA:Hh (∀j,j<tl.length->qU (tl.getD j qA)=false->res=false):=ay λj U e=>by
  rw[I,List.all_eq_false];exact⟨_,by rw[gD,gE U]at e;exact gM U,by rw[gD,gE U]at e;simp only[Option.getD_some]at e;rw[e];simp⟩
 have O:Hh ((∀i,i<tl.length->qU (tl.getD i qA)=true)->res=true):=ay λh=>by
  rw[I,aT];intro t ht;obtain⟨i,hi,rfl⟩:=gO ht;have:=h i hi;rw[gD,gE hi]at this;exact this
 rw[<-I];clear I hs;obtain⟨n,hn⟩:=Ex tl.length;rw[<-hn]at hl HC HR HA O ⊢;clear hn hc;go_enter Tryz.func53,Tryz.ntmps53;go_wp2_with fail;go_loopw [7] (λt wr=>∃(j:Nat),j<=n/\t=ai j/\Hh ((∀i,i<j->qU (tl.getD i qA)=true)/\Bl w wr)) (λt _=>n-(intOf t).toNat);exact⟨0,nZ _,rfl,ay ⟨λi hi=>Oo,bJ _ _⟩⟩;obtain⟨j,b1,rfl,HT⟩:=hrel;by_cases V:j<n
 ·have i1:(j:Int)<(n:Int):=Oo;obtain⟨b,oo,ea,v0,v1,v2,c0,c1,c2,hI⟩:=HC.o wr HT.o.2 j V;subst ea;have a3:=ay (HR.o j V);have a6:=ay (HA.o j V);obtain⟨W3,K⟩:=Ex (wr.alloc (.cells #[v0,v1,v2] 61));have a4:Bl wr W3:=by rw[K];exact(bJ _ _).alloc (nR _) _
  have a5:Hh (TX W3 wr.1.size v0 v1 v2):=ay (by rw[K];exact TX.made _ _ _ _);have KT:=ay (yo W3 v0 v1 v2 _ _ _ (hI.below a4) a3.o.vs a3.o.rows);have a7:=ay (bt HT.o.2 a4);have HP:=ay HT.o.1;obtain⟨a0,k0,e0,-⟩:=hI.vs;obtain⟨a1,k1,e1,-⟩:=hI.rows;obtain⟨a2,k2,e2,-⟩:=hI.ws;subst e0 e1 e2;have ey:ql (tl.getD j qA).vs (tl.getD j qA).rows (tl.getD j qA).ws=qU (tl.getD j qA):=rfl;rw[ey]at KT;have a8:Hh (qU (tl.getD j qA)=true->∀i,i<j+1->qU (tl.getD i qA)=true):=ay λhy i hi=>by
   by_cases e:i=j;rw[e];exact hy;exact HP.o i Oo
  generalize qU (tl.getD j qA)=y at KT a6 a8;generalize (tl.getD j qA).rows.length=nr at *;generalize (tl.getD j qA).vs.length=n0 at *;generalize (tl.getD j qA).ws.length=n2 at *;clear a4 hI HT ey a3;have d0:=a5.o.c0;have d1:=a5.o.c1;have d2:=a5.o.c2;go_upto_region 4 with fail;rw[<-K];clear K c0 c1 c2;cases y
  ·have b0:=ay (a6.o rfl);go_wp2_with (first|(go_at_call 74;refine KT.o.mono ?_;rintro e w4 ⟨rfl,M⟩)|fail);go_ret;exact⟨by rw[b0.o];rfl,bt a7.o M⟩
  go_wp2_with (first|(go_at_call 74;refine KT.o.mono ?_;rintro e w4 ⟨rfl,M⟩)|fail);have HN:Hh ((∀i,i<j+1->qU (tl.getD i qA)=true)/\Bl w w4):=ay ⟨a8.o (by trivial),bt a7.o M⟩;clear M KT;go_roundw;exact⟨j+1,Oo,Gg,HN⟩;exact Im
 obtain rfl:j=n:=Oo;have i1:¬((j:Int)<(j:Int)):=Oo;have HY:=ay (O.o HT.o.1);go_wp2_with fail;go_ret;exact⟨by rw[HY.o];rfl,HT.o.2⟩
theorem OwnT.keep{w':World}(h:OwnT w B g0 g1 g2 vs rows ws f)(hb:∀q,B<=q->q<w.1.size->w'.1[q]?=w.1[q]?)(hs:w.1.size<=w'.1.size):OwnT w' B g0 g1 g2 vs rows ws f:=by
 have K:=h.lt0;have M:=h.lt1;have O:=h.lt3;have I:=h.wt.lt;exact⟨h.vr.move (hb _ K Oo) hs,h.rw.move (hb _ Oo Oo) (λi hi=>hb _ (by have:=h.rw.gt i hi;omega) (h.rw.own i hi).lt) hs,h.wt.move (hb _ Oo I) hs,h.lt0,h.lt1,h.lt2,h.lt3⟩
theorem OwnT.base{B':Nat}(h:OwnT w B g0 g1 g2 vs rows ws f)(hB:B'<=B):OwnT w B' g0 g1 g2 vs rows ws f:=⟨h.vr,h.rw,h.wt,bM hB h.lt0,h.lt1,h.lt2,h.lt3⟩
def TbCopy(W:World)(g i:Nat)(t:TbV):Prop:=∃g0 g1 g2 f,W.cell? (az g (i*3))=some (.slice (some (az g0 0)) t.vs.length t.vs.length)/\W.cell? (az g (i*3+1))=some (.slice (some (az g1 0)) t.rows.length t.rows.length)/\W.cell? (az g (i*3+2))=some (.slice (some (az g2 0)) t.ws.length t.ws.length)/\OwnT W (g+1) g0 g1 g2 t.vs t.rows t.ws f
theorem TbCopy.below(h:TbCopy W g i t)(hb:Bl W W'):TbCopy W' g i t:=by
 obtain⟨g0,g1,g2,f,I,K,M,O⟩:=h;exact⟨g0,g1,g2,f,xL hb I,xL hb K,xL hb M,O.below hb⟩
theorem TbCopy.set(h:TbCopy W g i t)(hq:q<i*3∨i*3+2<q):TbCopy (W.setCell (az g q) v) g i t:=by
 obtain⟨g0,g1,g2,f,I,K,M,O⟩:=h;exact⟨g0,g1,g2,f,(bC _ _ _ _ Nq).trans I,(bC _ _ _ _ Nq).trans K,(bC _ _ _ _ Nq).trans M,
  O.keep (λk U _=>bD _ _ _ _ (by show k≠g;omega)) (by simp[World.setCell])⟩
structure HalfT(W:World)(g n j:Nat)(tl:List TbV):Prop where
 any:∀q,q<n*3->∃u,W.cell? (az g q)=some u
 free:∀q,q<n*3->W.frozen? (az g q)=false
 copy:∀i,i<j->TbCopy W g i (tl.getD i qA)
theorem HalfT.below(h:HalfT W g n j tl)(I:g<W.1.size)(hb:Bl W W'):HalfT W' g n j tl:=
 ⟨λq hq=>by obtain⟨u,K⟩:=h.any q hq;exact⟨u,xL hb K⟩,λq hq=>(hb.frozen (p:=(az g q)) I).trans (h.free q hq),λi hi=>(h.copy i hi).below hb⟩
theorem uk{I:Nat}(h:∃u,W.cell? (az g q)=some u):∃u,(W.setCell (az g I) v).cell? (az g q)=some u:=by
 obtain⟨u,K⟩:=h;by_cases e:q=I;subst e;exact⟨v,bG _ _ _ K⟩;exact⟨u,(bC _ _ _ _ (by intro M;simp only[Addr.mk.injEq]at M;omega)).trans K⟩
theorem HalfT.step(h:HalfT W g n j tl)(O:j<n)(ho:OwnT W (g+1) g0 g1 g2 (tl.getD j qA).vs (tl.getD j qA).rows (tl.getD j qA).ws f):
 HalfT (((W.setCell (az g (j*3)) (.slice (some (az g0 0)) (tl.getD j qA).vs.length (tl.getD j qA).vs.length)).setCell (az g (j*3+1)) (.slice (some (az g1 0)) (tl.getD j qA).rows.length (tl.getD j qA).rows.length)).setCell (az g (j*3+2)) (.slice (some (az g2 0)) (tl.getD j qA).ws.length (tl.getD j qA).ws.length)) g n (j+1) tl where
 any q hq:=uk (uk (uk (h.any q hq)))
 free q hq:=by rw[fS,fS,fS];exact h.free q hq
 copy i hi:=by
  by_cases e:i=j
  ·subst e;obtain⟨u0,c0⟩:=h.any (i*3) Oo;obtain⟨u1,c1⟩:=h.any (i*3+1) Oo;obtain⟨u2,c2⟩:=h.any (i*3+2) Oo;have ne:∀(X:World) (a b:Nat) (v:Value),a≠b->(X.setCell (az g b) v).cell? (az g a)=X.cell? (az g a):=λX a b v I=>bC _ _ _ _ (by intro K;simp only[Addr.mk.injEq]at K;omega);have kp:∀(X:World) (q:Nat) (v:Value),OwnT X (g+1) g0 g1 g2 (tl.getD i qA).vs (tl.getD i qA).rows (tl.getD i qA).ws f->OwnT (X.setCell (az g q) v) (g+1) g0 g1 g2 (tl.getD i qA).vs (tl.getD i qA).rows (tl.getD i qA).ws f:=λX q v M=>M.keep (λk U _=>bD _ _ _ _ (by show k≠g;omega)) (by simp[World.setCell]);refine⟨g0,g1,g2,f,?_,?_,?_,kp _ _ _ (kp _ _ _ (kp _ _ _ ho))⟩;rw[ne _ _ _ _ Oo,ne _ _ _ _ Oo];exact bG _ _ _ c0;rw[ne _ _ _ _ Oo];exact bG _ _ _ ((ne _ _ _ _ Oo).trans c1);exact bG _ _ _ ((ne _ _ _ _ Oo).trans ((ne _ _ _ _ Oo).trans c2))
  exact(((h.copy i Oo).set Oo).set Oo).set Oo
theorem VR(w:World)(v:Value)(tl:List TbV)(h:ITs w v tl)(hl:tl.length<=1048576)(hs:∀t∈tl,TvS t):
 Cl 7 #[v] w λe w'=>e=.returned (.slice (some (az w.1.size 0)) tl.length tl.length)/\HalfT w' w.1.size tl.length tl.length tl/\w.1.size<w'.1.size/\Bl w w':=by
 obtain⟨i0,hi,b1,b7,b8⟩:=info_parts Tryz.infoTb;obtain⟨b9,ct,rfl,hc⟩:=h;have HC:Hh (∀W,Bl w W->∀j,j<tl.length->∃b oo,b9=some (az b oo)/\TabAt W b (oo+j*3) (tl.getD j qA)):=ay λW hW j hj=>by
  rcases hc with h0|⟨b,oo,rfl,h⟩;omega;exact⟨b,oo,rfl,(h j hj).below hW⟩
 have HR:Hh (∀j,j<tl.length->TvS (tl.getD j qA)):=ay λj hj=>hs _ (by rw[gD,gE hj];exact gM _);obtain⟨n,hn⟩:=Ex tl.length;rw[<-hn]at hl HC HR ⊢;clear hn hc hs;go_enter Tryz.func7,Tryz.ntmps7;go_wp2_with (at_make;refine wpList_make_full _ rfl _ _ 32 rfl w.1.size 61 i0 (.agg #[sn,sn,sn]) 3 Tryz.underlying32 hi b1 b7 _ _ _ _ n rfl rfl rfl rfl ?b2 ?b3 (nR _) ?_)
 case b2=>rw[b8];omega
 case b3=>unfold maxLen;omega
 intro w0 I M;have a6:Bl w w0:=(bJ _ _).grown M (nR _) (λj hj=>by cases hj);have a3:w.1.size<w0.1.size:=(I.lt _ rfl).2;have a7:HalfT w0 w.1.size n 0 tl:=⟨λq hq=>by
  rw[I.cellAt q hq];exact⟨_,gE (by rw[I.1];exact hq)⟩,λq _=>I.frozenAt q,λi hi=>Oo⟩
 have a8:=ay (And.intro a6 (And.intro a3 a7));clear I M a6 a3 a7;go_wp2;go_loopw [4] (λt wr=>∃j:Nat,j<=n/\t=ai j/\Hh (Bl w wr/\w.1.size<wr.1.size/\HalfT wr w.1.size n j tl)) (λt _=>n-(intOf t).toNat);exact⟨0,nZ _,rfl,a8⟩;clear a8;obtain⟨j,hj,rfl,hH⟩:=hrel;obtain⟨O,a4,U⟩:=hH.o;by_cases a5:j<n
 ·have i1:(j:Int)<(n:Int):=Oo;obtain⟨b,oo,ea,v0,v1,v2,c0,c1,c2,hI⟩:=HC.o wr O j a5;subst ea;have V:=ay (HR.o j a5);have K1:=ay (Uh wr v0 v1 v2 _ _ _ hI V.o.vs V.o.rows V.o.ws);have c7:=ay O;have a9:=ay U;obtain⟨a0,k0,e0,-⟩:=hI.vs;obtain⟨a1,k1,e1,-⟩:=hI.rows;obtain⟨a2,k2,e2,-⟩:=hI.ws;subst e0 e1 e2;have b0:Hh (∀W g0 g1 g2 f,Bl wr W->OwnT W wr.1.size g0 g1 g2 (tl.getD j qA).vs (tl.getD j qA).rows (tl.getD j qA).ws f->HalfT (((W.setCell (az w.1.size (j*3)) (.slice (some (az g0 0)) (tl.getD j qA).vs.length (tl.getD j qA).vs.length)).setCell (az w.1.size (j*3+1)) (.slice (some (az g1 0)) (tl.getD j qA).rows.length (tl.getD j qA).rows.length)).setCell (az w.1.size (j*3+2)) (.slice (some (az g2 0)) (tl.getD j qA).ws.length (tl.getD j qA).ws.length)) w.1.size n (j+1) tl):=ay (λW g0 g1 g2 f hb ho=>
   (a9.o.below a4 hb).step a5 (ho.base Oo))
  clear hH O U hI HC V;generalize (tl.getD j qA).rows.length=nr at *;generalize (tl.getD j qA).vs.length=n0 at *;generalize (tl.getD j qA).ws.length=n2 at *;go_wp2_with fail;refine K1.o.mono ?_;rintro e w2 ⟨g0,g1,g2,f,rfl,ho,hb⟩;have K:=a9.o.below a4 hb;obtain⟨u0,d0⟩:=K.any (j*3) Oo;obtain⟨u1,d1⟩:=K.any (j*3+1) Oo;obtain⟨u2,d2⟩:=K.any (j*3+2) Oo;have f0:=K.free (j*3) Oo;have f1:=K.free (j*3+1) Oo;have f2:=K.free (j*3+2) Oo;have HF:=ay (b0.o w2 g0 g1 g2 f hb ho);have c8:=ay (bt c7.o hb);have c9:=hb.size;clear K hb b0 K1 ho;go_wp2;go_roundw;exact⟨j+1,Oo,Gg,ay ⟨((c8.o.setCell (nR _) _).setCell (nR _) _).setCell (nR _) _,by simp[World.setCell];omega,HF.o⟩⟩;exact Im
 obtain rfl:j=n:=Oo;have i1:¬((j:Int)<(j:Int)):=Oo;have HX:=ay (And.intro U (And.intro a4 O));clear hH O U;go_wp2;go_ret;exact⟨rfl,HX.o⟩
end Go.Proofs.YtcnfapnfmnolbaaGreat
