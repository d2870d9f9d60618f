import Derived.Test.YtkaipapdlnojiaaGreatWq44
set_option maxHeartbeats 40000000
set_option maxRecDepth 1000000
namespace Go.Proofs.YtkaipapdlnojiaaGreat
open Go.RowKit Meet
variable {rows:List (List Int)}{xs:List Value}{B k:Nat}{x y:Value}{W W':World}
theorem qAm{M O:TypeId}{v1 v2:Value}{n1 n2:Nat}{ys:List Value}(h1:W.ownsRow B M 1 v1 n1 xs)(h2:W.ownsRow B O 1 v2 n2 ys)(K:M≠O):v1.ownBlock=none∨v1.ownBlock≠v2.ownBlock:=by
 rcases h1.2 with ⟨rfl,-⟩|⟨g,cap,cur,rfl,-,hg,-⟩
 ·exact Or.inl rfl
 ·refine Or.inr λe=>?_;rcases h2.2 with ⟨rfl,-⟩|⟨g',U,V,rfl,-,I,-⟩
  ·cases e
  ·simp only[Value.ownBlock,Option.some.injEq]at e;subst e;rw[hg]at I;simp only[Option.some.injEq,Obj.cells.injEq]at I;exact K I.2.1
theorem RtS.step{w M w3:World}{g c:Nat}{vp vb:Value}{rl:List (List (List Int))}{cs:List (Option Addr)}{ca:Option Addr}{o:Obj}{np:Nat}(hB:Bl w M)(a2:BrX M w.heap.size (.slice none 0 0) (.slice none 0 0))(V:BrX M (w.heap.size+2) vp vb)(a3:M.ownsRow w.heap.size 3 1 vp np xs)(O:RtS M w.heap.size (w.heap.size+2) vb rl cs)
 (hq:Bl M W) (hT:TrO M.heap.size W rows ca) (hg:(W.alloc o).grownBy w3 vb.ownBlock) (I:w3.ownsRow w.heap.size 123 1 (.slice (some ⟨g,0,none⟩) (rl.length+1) c) (rl.length+1) (cs.map Value.pointer++[.pointer ca])) (a4:vb.ownBlock=some g∨g=(W.alloc o).heap.size):
 Bl w (w3.setCell ⟨w.heap.size+2,1,none⟩ (.slice (some ⟨g,0,none⟩) (rl.length+1) c))/\BrX (w3.setCell ⟨w.heap.size+2,1,none⟩ (.slice (some ⟨g,0,none⟩) (rl.length+1) c)) w.heap.size (.slice none 0 0) (.slice none 0 0)/\BrX (w3.setCell ⟨w.heap.size+2,1,none⟩ (.slice (some ⟨g,0,none⟩) (rl.length+1) c)) (w.heap.size+2) vp (.slice (some ⟨g,0,none⟩) (rl.length+1) c)/\(w3.setCell ⟨w.heap.size+2,1,none⟩ (.slice (some ⟨g,0,none⟩) (rl.length+1) c)).ownsRow w.heap.size 3 1 vp np xs/\RtS (w3.setCell ⟨w.heap.size+2,1,none⟩ (.slice (some ⟨g,0,none⟩) (rl.length+1) c)) w.heap.size (w.heap.size+2) (.slice (some ⟨g,0,none⟩) (rl.length+1) c) (rl++[rows]) (cs++[ca]):=by
 have U:=qB O.own hq;have x4:=(a2.below hq).grown U Dd hg;have x5:=(V.below hq).grown U Dd hg;have a5:g≠w.heap.size+2:=λe=>(own_ne I ⟨_,x5⟩ Dd) (by rw[e];rfl);refine⟨?_,?_,?_,?_,RtS.push O hB.size V.lt hq hT hg I a4 a5⟩
 ·exact((qE (bt hB hq) o).grown hg (qE (bt hB hq) o).size λk K=>(O.own.lt k K).1).setCell (by show w.heap.size<=w.heap.size+2;omega) _
 ·exact(bE _ _ _ _ (by show w.heap.size≠w.heap.size+2;omega)).trans x4
 ·unfold BrX;rw[bJ _ _ _ _ _ _ x5];rfl
 ·have h1:=(qB a3 hq).alloc o
  have h2:w3.ownsRow w.heap.size 3 1 vp np xs:=qA h1 λk K=>hg.block k (h1.lt k K).2 (λe=>by
   rcases qAm h1 (U.alloc o) (Dd)with h3|h3
   ·rw[h3]at K;exact absurd K Ss
   ·exact h3 (K.trans e))
  refine qA h2 λk K=>bE _ _ _ _ λe2=>?_;exact own_ne h2 ⟨_,x5⟩ Dd (by rw[K];exact congrArg some (by exact e2.symm))
theorem TR.keepB{D:List Int->Prop}{N0 N1:List Int->List Int}{f:List Int->Nat}{g0 g1:List Int->Value}(h:TR W B D N0 N1 f g0 g1)(I:BrX W k x y)(K:∀j,j≠k->W'.heap[j]?=W.heap[j]?):TR W' B D N0 N1 f g0 g1:=
 ⟨λp hp=>(K _ λe=>by
  have:=(h.blk p hp).symm.trans (e ▸ I);simp at this).trans (h.blk p hp),h.low,λp hp=>qA (h.o0 p hp) λg M=>K g λe=>own_ne (h.o0 p hp) ⟨_,I⟩ Dd (by rw[M,e]),λp hp=>qA (h.o1 p hp) λg M=>K g λe=>own_ne (h.o1 p hp) ⟨_,I⟩ Dd (by rw[M,e]),h.inj,h.a0,h.a1⟩
theorem TrO.keepB{c:Option Addr}(h:TrO B W rows c)(I:BrX W k x y)(K:∀j,j≠k->W'.heap[j]?=W.heap[j]?):TrO B W' rows c:=by
 rcases h with h|⟨M,D,N,f,g0,g1,O,U,V,h5⟩
 ·exact Or.inl h
 ·exact Or.inr ⟨M,D,N,f,g0,g1,O,U,V.keepB I K,h5⟩
theorem Ub(w:World)(vt vo:Value)(tl:List TbV)(o:List Int)(h:ITs w vt tl)(ho:IS w vo o)(hl:tl.length<=1000)(l3:o.length<=1000)(l4:∀t∈tl,zK t=true):
 Cl 65 #[vt,vo] w λe w'=>∃(g c:Nat) (vb:Value) (cs:List (Option Addr)),e=.returned (.agg #[.slice (some ⟨g,0,none⟩) 0 c,vb])/\w'.ownsRow w.heap.size 3 1 (.slice (some ⟨g,0,none⟩) 0 c) 0 []/\w'.ownsRow w.heap.size 123 1 vb tl.length (cs.map Value.pointer)/\cs.length=tl.length/\(∀t,t < tl.length->TrO w.heap.size w' ((tl.map λt=>(sdT o t).rows).getD t []) (cs.getD t none))/\Bl w w':=by
 obtain⟨i0,hi,o4,o5,o6⟩:=info_parts Tryz.infoInt;obtain⟨iP,hj,o7,o8,o9⟩:=info_parts Tryz.infoTriP;obtain⟨at',ct,rfl,hc⟩:=h
 have e6:Hid (∀j,j < tl.length->qL (tl.getD j qC).vs=true/\TvJ (tl.getD j qC)):=hid λj hj=>by
  have h1:=l4 (tl.getD j qC) (by rw[gD,bC hj];exact gM _);exact⟨(jT h1).1,jm h1⟩
 have HC:Hid (∀W,Bl w W->∀j,j < tl.length->∃b oo,at'=some ⟨b,oo,none⟩/\TabAt W b (oo+j*3) (tl.getD j qC)):=hid λW hW j hj=>by
  rcases hc with h0|⟨b,oo,rfl,h⟩
  ·omega
  ·exact⟨b,oo,rfl,(h j hj).below hW⟩
 obtain⟨ao,co,rfl,l5⟩:=ho
 have e7:Hid (∀W,Bl w W->∀j,j < o.length->∃b oo,ao=some ⟨b,oo,none⟩/\W.cell? ⟨b,oo+j,none⟩=some (.int .i64 (o.getD j 0))):=hid λW hW j hj=>by
  rcases l5 with h0|⟨b,oo,rfl,h⟩
  ·omega
  ·exact⟨b,oo,rfl,uE hW (h j hj)⟩
 obtain⟨RL,b9⟩:∃RL:Nat->List (List (List Int)),RL=λj=>(tl.take j).map λt=>(sdT o t).rows:=⟨_,rfl⟩;have l6:Hid (RL 0=[]):=hid (by rw[b9];rfl)
 have e8:Hid (∀j,j < tl.length->RL (j+1)=RL j++[(sdT o (tl.getD j qC)).rows]):=hid λj hj=>by
  rw[b9];show(tl.take (j+1)).map _=(tl.take j).map _++_;rw[tA,bC hj,mA,gD,bC hj];rfl
 have a8:Hid (∀j,j<=tl.length->(RL j).length=j):=hid λj hj=>by rw[b9];show((tl.take j).map _).length=j;rw[lM,bZ];omega
 have j0:Hid (RL tl.length=tl.map λt=>(sdT o t).rows):=hid (by rw[b9];show(tl.take tl.length).map _=_;rw[tL]);have e9:Hid (∀vs i,i < o.length->plO vs (o.take (i+1))=plO vs (o.take i)++(if o.getD i 0∈vs then [(bsQ vs (o.getD i 0):Int)] else [])):=hid λvs i hi=>by rw[zA hi,qC1]
 have c7:Hid (∀vs,plO vs (o.take o.length)=plO vs o):=hid λvs=>by rw[tL]
 have f4:Hid (∀vs i,(plO vs (o.take i)).length<=i):=hid λvs i=>by
  unfold plO;rw[lM];exact bQ (List.length_filter_le _ _) (by rw[bZ];omega)
 have j1:Hid (∀(t:TbV),t.vs.Pairwise (·< ·)->srt (xD t.rows (plO t.vs o))=(sdT o t).rows):=hid λt ht=>by rw[qC2 ht];rfl
 obtain⟨n,hn⟩:∃n,n=tl.length:=⟨_,rfl⟩;rw[<-hn]at hl HC e6 e8 a8 j0 ⊢;clear hn hc l4 b9 l5;have p1:=hid l3;obtain⟨no,l7⟩:∃no,no=o.length:=⟨_,rfl⟩;rw[<-l7]at l3 e7 e9 c7 ⊢;clear l7;obtain⟨W1,j2⟩:∃W1,W1=((w.alloc (.cells #[.slice none 0 0,.slice none 0 0] 120)).alloc (.cells #[] 3)).alloc (.cells #[.slice (some ⟨w.heap.size+1,0,none⟩) 0 0,.slice none 0 0] 120):=⟨_,rfl⟩
 have a9:Hid (Bl w W1/\BrX W1 w.heap.size (.slice none 0 0) (.slice none 0 0)/\BrX W1 (w.heap.size+2) (.slice (some ⟨w.heap.size+1,0,none⟩) 0 0) (.slice none 0 0)/\W1.ownsRow w.heap.size 3 1 (.slice (some ⟨w.heap.size+1,0,none⟩) 0 0) 0 []/\RtS W1 w.heap.size (w.heap.size+2) (.slice none 0 0) [] []):=hid (by
  rw[j2];have b1:Bl w (w.alloc (.cells #[.slice none 0 0,.slice none 0 0] 120)):=qE (bM _ _) _;have b2:Below (w.alloc (.cells #[.slice none 0 0,.slice none 0 0] 120)).heap.size (w.alloc (.cells #[.slice none 0 0,.slice none 0 0] 120)) ((w.alloc (.cells #[.slice none 0 0,.slice none 0 0] 120)).alloc (.cells #[] 3)):=qE (bM _ _) _;have b3:∀o,Below ((w.alloc (.cells #[.slice none 0 0,.slice none 0 0] 120)).alloc (.cells #[] 3)).heap.size ((w.alloc (.cells #[.slice none 0 0,.slice none 0 0] 120)).alloc (.cells #[] 3)) (((w.alloc (.cells #[.slice none 0 0,.slice none 0 0] 120)).alloc (.cells #[] 3)).alloc o):=λo=>qE (bM _ _) _;refine⟨bt b1 (bt b2 (b3 _)),((BrX.new w _ _).below b2).below (b3 _),?_,?_,⟨bG _ _ _ _,rfl,λt ht=>by simp at ht⟩⟩
  ·have:=BrX.new ((w.alloc (.cells #[.slice none 0 0,.slice none 0 0] 120)).alloc (.cells #[] 3)) (.slice (some ⟨w.heap.size+1,0,none⟩) 0 0) (.slice none 0 0);rw[World.size_alloc,World.size_alloc]at this;exact this
  ·have:=oM (w.alloc (.cells #[.slice none 0 0,.slice none 0 0] 120)) (e:=3) (size:=1) (base:=w.heap.size) #[] 0 Ss Dd rfl;rw[World.size_alloc]at this;exact qB this (b3 _))
 go_enter Tryz.func65,Tryz.ntmps65
 go_upto_region 2 with fail
 rw[<-j2];clear j2;go_wp2_with fail
 go_loopw [17] (λt wr=>∃(j:Nat),j<=n/\t=.int .i64 j/\Hid (∃vb cs,Bl w wr/\BrX wr w.heap.size (.slice none 0 0) (.slice none 0 0)/\BrX wr (w.heap.size+2) (.slice (some ⟨w.heap.size+1,0,none⟩) 0 0) vb/\wr.ownsRow w.heap.size 3 1 (.slice (some ⟨w.heap.size+1,0,none⟩) 0 0) 0 []/\RtS wr w.heap.size (w.heap.size+2) vb (RL j) cs)) (λt _=>n - (intOf t).toNat)
 case atStart=>exact⟨0,nZ _,rfl,hid ⟨_,[],a9.out.1,a9.out.2.1,a9.out.2.2.1,a9.out.2.2.2.1,by rw[l6.out];exact a9.out.2.2.2.2⟩⟩
 case round=>
  clear a9 l6;obtain⟨j,j3,rfl,V⟩:=hrel;obtain⟨vb,cs,hB,l8,l9,m0,m1⟩:=V.out;have HB:=hid hB;have O:=hid l8;have b0:=hid l9;have f7:=hid m0;have a3:=hid m1;clear V hB l8 l9 m0 m1;by_cases j4:j < n
  ·have i1:(j:Int) < (n:Int):=Oo;obtain⟨b,oo,ea,v0,v1,v2,c0,c1,c2,hI⟩:=HC.out wr HB.out j j4;subst ea;obtain⟨i3,m2⟩:=e6.out j j4;have m3:=hid (e8.out j j4);have j5:=a8.out j j3;generalize tl.getD j qC=tb at *;have c8:=hid (qEs i3);have c9:=hid m2;obtain⟨W3,b7⟩:∃W3,W3=wr.alloc (.cells #[v0,v1,v2] 34):=⟨_,rfl⟩;have j6:Bl wr W3:=by rw[b7];exact(bM _ _).alloc (bK _) _
   have f8:Hid (TX W3 wr.heap.size v0 v1 v2):=hid (by rw[b7];exact TX.made _ _ _ _);have k4:=hid (hI.below j6);have f9:=hid j6;obtain⟨a0,k0,e0,-⟩:=hI.vs;obtain⟨a1,k1,e1,-⟩:=hI.rows;obtain⟨a2,k2,e2,-⟩:=hI.ws;subst e0 e1 e2;clear hI i3 m2 j6 HC e6
   have KB:Hid (∀W v,Bl W3 W->Cl 104 #[.slice a0 tb.vs.length k0,.int .i64 v] W λe w'=>e=.returned (.tuple #[.int .i64 (bsQ tb.vs v),.bool (decide (v∈tb.vs))])/\∃d,w'=W.drewN d):=hid λW v hW=>by
    have:=ke W (.slice a0 tb.vs.length k0) tb.vs v (k4.out.below hW).vs (by have:=c9.out.vs;omega) (jJ (uv c8.out));rw[qEZ c8.out]at this;exact this
   have g2:Hid (∀W v,Bl W3 W->IS W v (plO tb.vs o)->Cl 106 #[.slice a1 tb.rows.length k1,v] W λe w'=>∃v' uo,e=.returned v'/\RQ w' W.heap.size v' uo (sdT o tb).rows/\Bl W w'):=hid λW v hW hv=>by
    have:=JF W (.slice a1 tb.rows.length k1) v tb.rows (plO tb.vs o) (k4.out.below hW).rows hv (by have:=c9.out.n;omega) (by have h1:=f4.out tb.vs no;rw[c7.out]at h1;omega) (λr hr q hq=>by rw[c9.out.len r hr];exact qFe c8.out q hq);rw[j1.out tb c8.out]at this;exact this
   have KT:Hid (∀W v uo,RQ W W3.heap.size v uo (sdT o tb).rows->Bl W3 W->Cl 105 #[v] W λe w'=>∃c,e=.returned (.pointer c)/\TrO W3.heap.size w' (sdT o tb).rows c/\Bl W w'):=hid λW v uo hQ hW=>by
    refine(JY W v (sdT o tb).rows (hQ.rs.iss (bM _ _)) (yh o tb).sl (bQ (ud o tb) (by have:=c9.out.n;omega)) (λr hr=>by rw[(yh o tb).len r hr];exact bQ (X9 _ _) p1.out)).mono ?_;rintro e w' ⟨c,rfl,h1,h2⟩;refine⟨c,rfl,?_,h2⟩;rcases h1 with ⟨h3,h4⟩|⟨h3,root,h4,D,N,f,g0,g1,h5,h6,h7,h8,h9⟩
    ·exact Or.inl ⟨h3,h4⟩
    ·exact Or.inr ⟨h3,D,N,f,g0,g1,by rw[h7];exact h4,h5,h6.base hW.size,h8⟩
   have i4:Hid (∀i,i < no->plO tb.vs (o.take (i+1))=plO tb.vs (o.take i)++(if o.getD i 0∈tb.vs then [(bsQ tb.vs (o.getD i 0):Int)] else [])):=hid λi hi=>e9.out tb.vs i hi;have i5:=hid (c7.out tb.vs);have i6:Hid (∀i,(plO tb.vs (o.take i)).length<=i):=hid λi=>f4.out tb.vs i;have p2:W3.heap.size<=W3.heap.size:=bK _;generalize tb.ws.length=l2 at *;obtain⟨nr,m4⟩:∃nr,nr=tb.rows.length:=⟨_,rfl⟩;rw[<-m4]at g2 f8 b7 c1;clear m4;obtain⟨n0,m5⟩:∃n0,n0=tb.vs.length:=⟨_,rfl⟩;rw[<-m5]at KB f8 b7 c0;clear m5;obtain⟨SR,m6⟩:∃SR,SR=(sdT o tb).rows:=⟨_,rfl⟩;rw[<-m6]at g2 KT m3;clear m6 e8 e9 c7 f4 j1 c9 c8 k4 a8 p2;go_upto_region 5 with fail
   rw[<-b7];clear b7 c0 c1 c2;generalize wr=wo at *;go_wp2_with fail
   go_loopw [8,23] (λv8 t wr=>∃(i:Nat) (vq:Value),i<=no/\t=.int .i64 i/\vq=v8/\Hid (Bl W3 wr/\wr.ownsRow W3.heap.size 3 1 vq (plO tb.vs (o.take i)).length ((plO tb.vs (o.take i)).map (Value.int .i64)))) (λ_ t _=>no - (intOf t).toNat)
   case atStart=>exact⟨0,_,nZ _,rfl,rfl,hid ⟨bM _ _,bG _ _ _ _⟩⟩
   case round=>
    obtain⟨i,vq,q0,rfl,rfl,V⟩:=hrel;by_cases i7:i < no
    ·have i2:(i:Int) < (no:Int):=Oo;obtain⟨bo,qo,ea,e1⟩:=e7.out wr (bt (bt HB.out f9.out) V.out.1) i i7;subst ea;have g4:=hid (KB.out wr (o.getD i 0) V.out.1);have d0:=(f8.out.below V.out.1).c0;have g5:=hid (i4.out i i7);have p3:=i6.out i;generalize o.getD i 0=ov at *;by_cases U:ov∈tb.vs
     ·rw[decide_eq_true U]at g4;rw[if_pos U]at g5;generalize bsQ tb.vs ov=bq at *;clear U;obtain⟨pl,d6⟩:∃pl,pl=(plO tb.vs (o.take i)).length:=⟨_,rfl⟩;have i8:=hid d6;rw[<-d6]at p3;clear d6
      go_wp2_with (first
       |(go_at_call 104;refine g4.out.mono ?_;rintro e w5 ⟨rfl,d5,rfl⟩;have k5:(wr.drewN d5).ownsRow W3.heap.size 3 1 vq pl ((plO tb.vs (o.take i)).map (Value.int .i64)):=(by rw[i8.out];exact V.out.2);have k7:=below_drewN V.out.1 d5;have m7:=k7.size)
       |(at_builtin;refine wpList_append_lies _ rfl _ _ 25 rfl W3.heap.size 3 i0 (.int .i64 0) 1 8 Tryz.underlying25 hi o4 o5 o6 rfl Dd vq _ _ rfl (k5.alloc _) ⟨_,0,none⟩ 1 1 [.int .i64 bq] rfl rfl (qH _ _ _) (λu hu=>by simp at hu;subst hu;rfl) Dd (by unfold maxLen;omega) Oo (bQ m7 Ss) _ rfl ?_;intro g6 p4 w6 d7 a6 m8 m9)
       |fail)
      have HN:Hid (Bl W3 w6/\w6.ownsRow W3.heap.size 3 1 (.slice (some ⟨g6,0,none⟩) (pl+1) p4) (plO tb.vs (o.take (i+1))).length ((plO tb.vs (o.take (i+1))).map (Value.int .i64))):=hid ⟨grB (qE k7 _) (k5.alloc _) a6,by rw[g5.out,lA,lS,mA,<-i8.out];exact d7⟩;clear d7 a6 m8 m9 k5 k7 m7;go_roundw
      case rel=>exact⟨i+1,_,Oo,Gg,rfl,HN⟩
      case measure=>simp[intOf];omega
     ·rw[decide_eq_false U]at g4;rw[if_neg U,List.append_nil]at g5;clear U;go_wp2_with (first|(go_at_call 104;refine g4.out.mono ?_;rintro e w5 ⟨rfl,d5,rfl⟩)|fail)
      go_roundw
      case rel=>exact⟨i+1,_,Oo,Gg,rfl,hid ⟨below_drewN V.out.1 _,by rw[g5.out];exact V.out.2⟩⟩
      case measure=>simp[intOf];omega
    ·obtain rfl:i=no:=Oo;have i2:¬((i:Int) < (i:Int)):=Oo;rw[i5.out]at V;have d8:=(b0.out.below f9.out).below V.out.1;have i9:=f8.out.below V.out.1;have r0:wr.drew.cell? ⟨w.heap.size+1+1,1,none⟩=some vb:=d8.c1;have r1:wr.drew.cell? ⟨wo.heap.size,1,none⟩=some (.slice a1 nr k1):=i9.c1;have k8:=hid d8;have p5:Bl wr wr.drew:=(bM _ _).drew;have n3:=hid (g2.out wr.drew vq V.out.1.drew (qK V.out.2));have g7:Hid (Bl wo wr):=hid (bt f9.out V.out.1);have n4:W3.heap.size<=wr.heap.size:=V.out.1.size;have q1:w.heap.size<=wo.heap.size:=HB.out.size;have n5:wo.heap.size<=W3.heap.size:=f9.out.size;have d9:Hid (∀W,Bl wo W->W.ownsRow w.heap.size 123 1 vb j (cs.map Value.pointer)):=hid λW hW=>by have:=(a3.out.below hW).own;rw[j5]at this;exact this
     have n6:Hid (∀W v uo,RQ W wr.heap.size v uo SR->Bl wr W->Cl 105 #[v] W λe w'=>∃c,e=.returned (.pointer c)/\TrO wo.heap.size w' SR c/\Bl W w'):=hid λW v uo h1 h2=>(KT.out W v uo (h1.base n4) (bt V.out.1 h2)).mono λe w' ⟨c,h3,h4,h5⟩=>⟨c,h3,by
      rcases h4 with h4|⟨h4,D,N,f,g0,g1,h6,h7,h8,h9⟩
      ·exact Or.inl h4
      ·exact Or.inr ⟨h4,D,N,f,g0,g1,h6,h7,h8.base n5,h9⟩,h5⟩
     have g8:Hid (∀W,Bl wr W->W.cell? ⟨w.heap.size+1+1,1,none⟩=some vb):=hid λW hW=>(k8.out.below hW).c1;clear d8 i9 g2 KT KB e7 i4 i5 i6;go_upto_region 13 with fail
     go_region_law (first
      |(refine step_append_lies _ (by rfl) _ _ _ (by rfl) w.heap.size 123 iP (.pointer none) 1 8 Tryz.underlying118 hj o7 o8 o9 rfl Dd vb j _ (by rfl) ((d9.out _ (bt g7.out I)).alloc _) ⟨g9.heap.size,0,none⟩ 1 1 [.pointer n8] (by rfl) (by rfl) (qH _ _ _) (λu hu=>by simp at hu;subst hu;rfl) Dd (by unfold maxLen;omega) Oo (by have:=I.size;simp;omega) _ rfl ?_;intro a4 K a5 a7 M e3 k9;have e4:=(k8.out.below I).grown (d9.out _ (bt g7.out I)) Dd M;have p6:a5.cell? ⟨w.heap.size+1+1,1,none⟩=some vb:=e4.c1;have f48:a5.frozen? ⟨w.heap.size+1+1,1,none⟩=false:=e4.free 1)
      |(go_simp;go_at_call 106;refine n3.out.mono ?_;rintro e l0 ⟨p7,p8,rfl,n9,l1⟩;have e5:Bl wr l0:=bt p5 l1;have q3:=g8.out l0 e5)
      |(go_simp;go_at_call 105;refine(n6.out l0 p7 p8 n9 e5).mono ?_;rintro e g9 ⟨n8,rfl,o2,o3⟩;have I:Bl wr g9:=bt e5 o3;have q4:=g8.out g9 I;have p9:∀ob,(g9.alloc ob).cell? ⟨w.heap.size+1+1,1,none⟩=some vb:=λob=>g8.out _ (qE I ob))
      |fail)
     all_goals(
      have HN:Hid (Bl w (a5.setCell ⟨w.heap.size+2,1,none⟩ (.slice (some ⟨a4,0,none⟩) (j+1) K))/\BrX (a5.setCell ⟨w.heap.size+2,1,none⟩ (.slice (some ⟨a4,0,none⟩) (j+1) K)) w.heap.size (.slice none 0 0) (.slice none 0 0)/\BrX (a5.setCell ⟨w.heap.size+2,1,none⟩ (.slice (some ⟨a4,0,none⟩) (j+1) K)) (w.heap.size+2) (.slice (some ⟨w.heap.size+1,0,none⟩) 0 0) (.slice (some ⟨a4,0,none⟩) (j+1) K)/\(a5.setCell ⟨w.heap.size+2,1,none⟩ (.slice (some ⟨a4,0,none⟩) (j+1) K)).ownsRow w.heap.size 3 1 (.slice (some ⟨w.heap.size+1,0,none⟩) 0 0) 0 []/\RtS (a5.setCell ⟨w.heap.size+2,1,none⟩ (.slice (some ⟨a4,0,none⟩) (j+1) K)) w.heap.size (w.heap.size+2) (.slice (some ⟨a4,0,none⟩) (j+1) K) (RL (j+1)) (cs++[n8])):=hid (by
       rw[m3.out];have:=RtS.step (rl:=RL j) HB.out O.out b0.out f7.out a3.out (bt g7.out I) o2 M (by rw[j5];exact a7) e3;rw[j5]at this;exact this))
     all_goals clear HB O b0 f7 a3 V g7 d9 n6 g8 k8 a7 M e3 k9 e4 p6 f48
     all_goals try simp only[Exit.inBlock,Exit.then]
     all_goals go_wp2_with fail
     all_goals go_roundw
     all_goals first
      |exact⟨j+1,Oo,Gg,hid ⟨_,_,HN.out⟩⟩
      |(simp[intOf];omega)
  ·obtain rfl:j=n:=Oo;have i1:¬((j:Int) < (j:Int)):=Oo;obtain⟨ab,cb,eb⟩:=xJ a3.out.own;rw[a8.out j j3]at eb;subst eb;have hW:∀u1 u2,∀q,q≠w.heap.size->((wr.setCell ⟨w.heap.size,0,none⟩ u1).setCell ⟨w.heap.size,1,none⟩ u2).heap[q]?=wr.heap[q]?:=λu1 u2 q hq=>by rw[bE _ _ _ _ (by exact hq),bE _ _ _ _ (by exact hq)]
   have HF:Hid (∀u1 u2,((wr.setCell ⟨w.heap.size,0,none⟩ u1).setCell ⟨w.heap.size,1,none⟩ u2).ownsRow w.heap.size 3 1 (.slice (some ⟨w.heap.size+1,0,none⟩) 0 0) 0 []/\((wr.setCell ⟨w.heap.size,0,none⟩ u1).setCell ⟨w.heap.size,1,none⟩ u2).ownsRow w.heap.size 123 1 (.slice ab j cb) j (cs.map Value.pointer)/\cs.length=j/\(∀t,t < j->TrO w.heap.size ((wr.setCell ⟨w.heap.size,0,none⟩ u1).setCell ⟨w.heap.size,1,none⟩ u2) ((tl.map λt=>(sdT o t).rows).getD t []) (cs.getD t none))/\Bl w ((wr.setCell ⟨w.heap.size,0,none⟩ u1).setCell ⟨w.heap.size,1,none⟩ u2)):=hid λu1 u2=>by
    have h0:=a3.out.own;have h1:=a3.out.len;have h2:=a3.out.el;rw[a8.out j j3]at h0 h1 h2;rw[j0.out]at h2;exact⟨yZ f7.out O.out Dd,yZ h0 O.out Dd,h1,λt ht=>(h2 t ht wr λ_ _ _ _=>rfl).keepB O.out (hW u1 u2),(HB.out.setCell (by show _<=w.heap.size;omega) _).setCell (by show _<=w.heap.size;omega) _⟩
   have r0:wr.cell? ⟨w.heap.size+1+1,0,none⟩=some (.slice (some ⟨w.heap.size+1,0,none⟩) 0 0):=b0.out.c0;have r1:wr.cell? ⟨w.heap.size+1+1,1,none⟩=some (.slice ab j cb):=b0.out.c1;have r2:wr.cell? ⟨w.heap.size,0,none⟩=some (.slice none 0 0):=O.out.c0;have r3:wr.cell? ⟨w.heap.size,1,none⟩=some (.slice none 0 0):=O.out.c1;have r4:wr.frozen? ⟨w.heap.size,0,none⟩=false:=O.out.free 0;have r5:wr.frozen? ⟨w.heap.size,1,none⟩=false:=O.out.free 1;clear hW a3 j0 a8 e8 e6 HC HB O b0 f7 f4 j1 c7 e9 e7;go_wp2_with fail
   refine bodyPost_ret (v:=.agg #[.slice (some ⟨w.heap.size+1,0,none⟩) 0 0,.slice ab j cb]) (by simp[results,Tryz.results65,go_sem,r2,r3]) rfl ?_;obtain⟨h1,h2,h3,h4,h5⟩:=HF.out (.slice (some ⟨w.heap.size+1,0,none⟩) 0 0) (.slice ab j cb);exact⟨_,_,_,rfl,h1,cs,h2,h3,λt ht=>(by have:=h4 t ht;rw[gD,bN,gD]at this;exact this),h5⟩
theorem XD(w:World)(vt:Value)(tl:List TbV)(h:ITs w vt tl)(hl:tl.length<=1099511627776)(hs:∀t∈tl,TvS t):
 Cl 32 #[vt] w λe w'=>e=.returned (.bool (tl.all zK))/\Bl w w':=by
 obtain⟨at',ct,rfl,hc⟩:=h
 have HC:Hid (∀W,Bl w W->∀j,j < tl.length->∃b oo,at'=some ⟨b,oo,none⟩/\TabAt W b (oo+j*3) (tl.getD j qC)):=hid λW hW j U=>by
  rcases hc with h0|⟨b,oo,rfl,h⟩
  ·omega
  ·exact⟨b,oo,rfl,(h j U).below hW⟩
 have HR:Hid (∀j,j < tl.length->TvS (tl.getD j qC)):=hid λj U=>hs _ (by rw[gD,bC U];exact gM _);obtain⟨res,I⟩:∃r,r=tl.all zK:=⟨_,rfl⟩
 have HA:Hid (∀j,j < tl.length->zK (tl.getD j qC)=false->res=false):=hid λj U e=>by
  rw[I,List.all_eq_false];exact⟨_,by rw[gD,bC U]at e;exact gM U,by rw[gD,bC U]at e;simp only[Option.getD_some]at e;rw[e];simp⟩
 have O:Hid ((∀i,i < tl.length->zK (tl.getD i qC)=true)->res=true):=hid λh=>by
  rw[I,bY];intro t ht;obtain⟨i,hi,rfl⟩:=gO ht;have:=h i hi;rw[gD,bC hi]at this;exact this
 rw[<-I];clear I hs;obtain⟨n,hn⟩:∃n,n=tl.length:=⟨_,rfl⟩;rw[<-hn]at hl HC HR HA O ⊢;clear hn hc;go_enter Tryz.func32,Tryz.ntmps32
 go_wp2_with fail
 go_loopw [7] (λt wr=>∃(j:Nat),j<=n/\t=.int .i64 j/\Hid ((∀i,i < j->zK (tl.getD i qC)=true)/\Bl w wr)) (λt _=>n - (intOf t).toNat)
 case atStart=>exact⟨0,nZ _,rfl,hid ⟨λi hi=>Oo,bM _ _⟩⟩
 case round=>
  obtain⟨j,b0,rfl,HT⟩:=hrel;by_cases V:j < n
  ·have i1:(j:Int) < (n:Int):=Oo;obtain⟨b,oo,ea,v0,v1,v2,c0,c1,c2,hI⟩:=HC.out wr HT.out.2 j V;subst ea;have a3:=hid (HR.out j V);have a6:=hid (HA.out j V);obtain⟨W3,K⟩:∃W3,W3=wr.alloc (.cells #[v0,v1,v2] 34):=⟨_,rfl⟩;have a4:Bl wr W3:=by rw[K];exact(bM _ _).alloc (bK _) _
   have a5:Hid (TX W3 wr.heap.size v0 v1 v2):=hid (by rw[K];exact TX.made _ _ _ _);have KT:=hid (Ve W3 v0 v1 v2 _ _ _ (hI.below a4) a3.out.vs a3.out.rows);have a7:=hid (bt HT.out.2 a4);have HP:=hid HT.out.1;obtain⟨a0,k0,e0,-⟩:=hI.vs;obtain⟨a1,k1,e1,-⟩:=hI.rows;obtain⟨a2,k2,e2,-⟩:=hI.ws;subst e0 e1 e2;have ey:zd (tl.getD j qC).vs (tl.getD j qC).rows (tl.getD j qC).ws=zK (tl.getD j qC):=rfl;rw[ey]at KT
   have a8:Hid (zK (tl.getD j qC)=true->∀i,i < j+1->zK (tl.getD i qC)=true):=hid λhy i hi=>by
    by_cases e:i=j
    ·rw[e];exact hy
    ·exact HP.out i Oo
   generalize zK (tl.getD j qC)=y at KT a6 a8;generalize (tl.getD j qC).rows.length=nr at *;generalize (tl.getD j qC).vs.length=n0 at *;generalize (tl.getD j qC).ws.length=n2 at *;clear a4 hI HT ey a3;have d0:=a5.out.c0;have d1:=a5.out.c1;have d2:=a5.out.c2;go_upto_region 4 with fail
   rw[<-K];clear K c0 c1 c2;cases y
   ·have a9:=hid (a6.out rfl);go_wp2_with (first|(go_at_call 59;refine KT.out.mono ?_;rintro e w4 ⟨rfl,M⟩)|fail)
    go_ret;exact⟨by rw[a9.out];rfl,bt a7.out M⟩
   ·go_wp2_with (first|(go_at_call 59;refine KT.out.mono ?_;rintro e w4 ⟨rfl,M⟩)|fail)
    have HN:Hid ((∀i,i < j+1->zK (tl.getD i qC)=true)/\Bl w w4):=hid ⟨a8.out (by trivial),bt a7.out M⟩;clear M KT;go_roundw
    case rel=>exact⟨j+1,Oo,Gg,HN⟩
    case measure=>simp[intOf];omega
  ·obtain rfl:j=n:=Oo;have i1:¬((j:Int) < (j:Int)):=Oo;have HY:=hid (O.out HT.out.1);go_wp2_with fail
   go_ret;exact⟨by rw[HY.out];rfl,HT.out.2⟩
end Go.Proofs.YtkaipapdlnojiaaGreat
