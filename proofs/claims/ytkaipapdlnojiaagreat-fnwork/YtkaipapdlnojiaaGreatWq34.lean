import Derived.Test.YtkaipapdlnojiaaGreatWq27
import Derived.Test.YtkaipapdlnojiaaGreatWq33
set_option maxHeartbeats 40000000
set_option maxRecDepth 1000000
namespace Go.Proofs.YtkaipapdlnojiaaGreat
open Go.RowKit
variable {o p q r:List Int}{tl:List TbV}{us:List Value}{B D i j:Nat}{v:Value}{W:World}
def sdT(o:List Int)(t:TbV):SdM:=⟨shr o t.vs,srt (t.rows.map (qp t.vs (shr o t.vs)))⟩
theorem yh(o:List Int)(t:TbV):(sdT o t).Ok:=by
 refine⟨(yp _ _ (bK _)).1,λr hr=>?_⟩;obtain⟨q,-,rfl⟩:=List.mem_map.1 (((yp _ (t.rows.map (qp t.vs (shr o t.vs))) (bK _)).2 r).1 hr);exact ZS _ _ _
structure TvJ(t:TbV):Prop where
 vs:t.vs.length<=6
 n:t.rows.length<=10000
 len:∀r∈t.rows,r.length=t.vs.length
structure SdR where
 v0:Value
 v1:Value
 s:SdM
def scs(r:SdR):List Value:=[r.v0,r.v1]
def El(v:Value)(W:World)(r:SdR):Prop:=∀W',(∀k,k < W.heap.size->v.ownBlock≠some k->W'.heap[k]?=W.heap[k]?)->IS W' r.v0 r.s.vars/\ISSc W' r.v1 r.s.rows
def ElS(B:Nat)(W:World)(r:SdR):Prop:=∀W',(∀k,B<=k->k < W.heap.size->W'.heap[k]?=W.heap[k]?)->IS W' r.v0 r.s.vars/\ISSc W' r.v1 r.s.rows
structure SDs(W:World)(B:Nat)(v:Value)(sl:List SdR):Prop where
 own:W.ownsRow B 141 2 v sl.length (sl.flatMap scs)
 el:∀r∈sl,El v W r
theorem SDs.push{wr w3:World}{g c:Nat}{sl:List SdR}{r:SdR}{o:Obj}(h:SDs wr B v sl)(hb:Bl wr W)(he:ElS wr.heap.size W r)(hg:(W.alloc o).grownBy w3 v.ownBlock)(M:w3.ownsRow B 141 2 (.slice (some ⟨g,0,none⟩) (sl.length+1) c) (sl.length+1) (sl.flatMap scs++[r.v0,r.v1]))(I:v.ownBlock=some g∨g=(W.alloc o).heap.size):
 SDs w3 B (.slice (some ⟨g,0,none⟩) (sl.length+1) c) (sl++[r]):=by
 have hs:=hb.size;have a2:=hg.size;rw[World.size_alloc]at a2 I;refine⟨by rw[lA,lS,List.flatMap_append];simpa[scs]using M,λq hq W' a3=>?_⟩
 have key:∀k,k < W.heap.size->v.ownBlock≠some k->g≠k->W'.heap[k]?=W.heap[k]?:=λk O U K=>by
  rw[a3 k Oo (λe=>K (by simpa[Value.ownBlock]using e)),hg.block k (by rw[World.size_alloc];omega) (λe=>U e.symm)];exact Below.heap_alloc _ _ _ O
 have V:∀k,v.ownBlock=some k->k < wr.heap.size:=λk O=>(h.own.lt k O).2;rcases List.mem_append.1 hq with hq|hq
 ·refine h.el q hq W' λk O U=>?_;rw[key k Oo U (λe=>?_)]
  ·exact hb.block k O
  ·subst e;rcases I with K|K
   ·exact U K
   ·omega
 ·rw[List.mem_singleton]at hq;subst hq;refine he W' λk U K=>key k K (λe=>?_) (λe=>?_)
  ·have:=V k e;omega
  ·subst e;rcases I with h3|h3
   ·have:=V _ h3;omega
   ·omega
theorem SDs.below{W':World}{sl:List SdR}(h:SDs W B v sl)(hb:Bl W W'):SDs W' B v sl:=by
 refine⟨qB h.own hb,λr hr X K=>h.el r hr X λk I M=>?_⟩;rw[K k (bV I hb.size) M];exact hb.block k I
theorem qGD{α:Type}(c:α->List Value)(I:∀x,(c x).length=2)(K:List α):∀t,(K.flatMap c)[t]?=(K[t / 2]?).bind λx=>(c x)[t % 2]?:=by
 induction K with
 |nil=>intro t;simp
 |cons x r ih=>
  intro t;rw[List.flatMap_cons];by_cases h:t < 2
  ·rw[aL (by rw[I];omega),Nat.div_eq_of_lt h,Nat.mod_eq_of_lt h];rfl
  ·obtain⟨s,rfl⟩:∃s,t=s+2:=⟨t - 2,Oo⟩;rw[bX (by rw[I];omega)];have e:s+2 - (c x).length=s:=by rw[I];omega
   rw[e,ih s,Nat.add_mod_right,Nat.add_div_right _ Dd];rfl
theorem SDs.isds{sl:List SdR}(h:SDs W B v sl):ISds W v (sl.map SdR.s):=by
 have K:∀r∈sl,IS W r.v0 r.s.vars/\ISSc W r.v1 r.s.rows:=λr hr=>h.el r hr W λ_ _ _=>rfl;rcases h.own.2 with ⟨rfl,M⟩|⟨g,cap,cur,rfl,a2,hh,M,-,-,ht⟩
 ·exact⟨none,0,by rw[lM,M],Or.inl (by rw[lM];exact M)⟩
 ·refine⟨_,cap,by rw[lM],Or.inr ⟨g,0,rfl,λj I=>?_⟩⟩;rw[lM]at I;obtain⟨h1,h2⟩:=K sl[j] (gM I);have eg:(sl.map SdR.s).getD j qS=sl[j].s:=by rw[gD,bN,bC I];rfl
  have V:∀q,q < 2->W.cell? ⟨g,j*2+q,none⟩=(scs sl[j])[q]?:=λq hq=>by
   rw[cell_of_row _ _ _ _ _ _ hh,<-Array.getElem?_toList,<-List.getElem?_take_of_lt (by omega:j*2+q < sl.length*2),ht,qGD scs (λ_=>rfl),show(j*2+q) / 2=j by omega,show(j*2+q) % 2=q by omega,bC I];rfl
  rw[eg,Nat.zero_add];obtain⟨a0,c0,e0,O⟩:=h1;obtain⟨a1,c1,e1,U⟩:=h2;refine⟨a0,c0,a1,c1,?_,?_,⟨a0,c0,rfl,O⟩,⟨a1,c1,rfl,U⟩⟩
  ·rw[<-e0];exact V 0 Oo
  ·rw[<-e1];exact V 1 Oo
theorem Tryz.infoSd:(Tryz.prog.info? 141).map (λi=>(i.zero,i.size,i.bytes))=some (some (.agg #[.slice none 0 0,.slice none 0 0]),2,48):=by kernel_rfl
theorem qAv(w:World)(x y:Value)(t:TypeId):∀j u,[x,y][j]?=some u->(w.alloc (.cells #[x,y] t)).cell? ((⟨w.heap.size,0,none⟩:Addr).add j)=some u:=by
 intro j u I;match j,I with
 |0,I=>simp at I;subst I;simp[Addr.add]
 |1,I=>simp at I;subst I;simp[Addr.add]
theorem qFn{W0:World}{v0 v1:Value}{s:SdM}(O:W.ownsRow B 3 1 v0 s.vars.length (s.vars.map (Value.int .i64)))(hb:Bl W0 W)(h1:RSx (λu=>∀k,u.ownBlock=some k->B<=k) W0 W v1 us s.rows)(hv:∀k,v1.ownBlock=some k->B<=k):ElS B W ⟨v0,v1,s⟩:=λW' I=>by
 refine⟨qK (qA O λg hg=>I g (O.lt g hg).1 (O.lt g hg).2),?_⟩;obtain⟨⟨a,cap,rfl,hc,hq⟩,-,U⟩:=h1;refine⟨a,cap,rfl,?_⟩;rcases hq with hq|⟨b,o,rfl,hq⟩
 ·exact Or.inl hq
 ·refine Or.inr ⟨b,o,rfl,λj V=>?_⟩;obtain⟨⟨⟨a2,c2,e2,K⟩,h3⟩,h4⟩:=U j V;refine⟨us.getD j undef,?_,⟨a2,c2,e2,?_⟩,h3⟩
  ·exact(bF (w:=W) (a:=⟨b,o+j,none⟩) (I b (hv b rfl) (bL W _ (hq j V)))).trans (hq j V)
  ·rcases K with K|⟨b2,M,rfl,K⟩
   ·exact Or.inl K
   ·refine Or.inr ⟨b2,M,rfl,λi hi=>?_⟩;have h5:W.cell? ⟨b2,M+i,none⟩=some (.int .i64 (s.rows.getD j []|>.getD i 0)):=(hb.cell (p:=⟨b2,M+i,none⟩) (bL W0 _ (K i hi))).trans (K i hi);exact(bF (w:=W) (a:=⟨b2,M+i,none⟩) (I b2 (h4 b2 (by rw[e2];rfl)) (bL W _ h5))).trans h5
theorem RQ.rsx{ls:List (List Int)}(h:RQ W B v us ls):RSx (λu=>∀k,u.ownBlock=some k->B<=k) W W v us ls:=
 ⟨h.rs.sl,h.rs.len,λi hi=>⟨h.rs.each i hi,λk I=>((h.each i hi).lt k I).1⟩⟩
theorem VU(w:World)(vt vo:Value)(tl:List TbV)(o:List Int)(h:ITs w vt tl)(ho:IS w vo o)(hl:tl.length<=1000)(l6:o.length<=1000)(i6:∀t∈tl,TvJ t):
 Cl 49 #[vt,vo] w λe w'=>∃v,e=.returned v/\ISds w' v (tl.map (sdT o))/\Bl w w':=by
 obtain⟨iS,V,l7,l8,l9⟩:=info_parts Tryz.infoIS;obtain⟨iD,hd,m0,m1,m2⟩:=info_parts Tryz.infoSd;obtain⟨at',ct,rfl,hc⟩:=h;have HO:=hid ho;obtain⟨ao,co,rfl,-⟩:=ho;have b9:Hid (∀j,j < tl.length->TvJ (tl.getD j qC)):=hid λj V=>i6 _ (by rw[gD,bC V];exact gM _)
 have c7:Hid (∀j,j < tl.length->tl.take (j+1)=tl.take j++[tl.getD j qC]):=hid λj V=>by
  rw[tA,bC V,gD,bC V];rfl
 have f9:Hid (tl.take tl.length=tl):=hid (tL ..);have g2:Hid (∀j,j<=tl.length->(tl.take j).length=j):=hid λj V=>by rw[bZ];omega
 have HC:Hid (∀W,Bl w W->∀j,j < tl.length->∃b oo,at'=some ⟨b,oo,none⟩/\TabAt W b (oo+j*3) (tl.getD j qC)):=hid λW hW j V=>by
  rcases hc with h0|⟨b,oo,rfl,h⟩
  ·omega
  ·exact⟨b,oo,rfl,(h j V).below hW⟩
 obtain⟨n,hn⟩:∃n,n=tl.length:=⟨_,rfl⟩;rw[<-hn]at hl b9 c7 f9 g2 HC ⊢;clear hn hc i6;obtain⟨no,c8⟩:∃no,no=o.length:=⟨_,rfl⟩;have i7:=hid c8;rw[<-c8]at l6 ⊢;rw[<-c8]at HO;clear c8;obtain⟨W1,g4⟩:∃W1,W1=w.alloc (.cells #[] 141):=⟨_,rfl⟩
 have g5:Hid (Bl w W1/\SDs W1 w.heap.size (.slice (some ⟨w.heap.size,0,none⟩) 0 0) []):=hid (by
  rw[g4];exact⟨(bM _ _).alloc (bK _) _,oM w #[] 0 (bK _) Dd rfl,λr hr=>by cases hr⟩)
 go_enter Tryz.func49,Tryz.ntmps49
 go_upto_region 2 with fail
 rw[<-g4];clear g4;go_wp2_with fail
 go_loopw [5,15] (λu t wr=>∃(j:Nat) (vs:Value),j<=n/\t=.int .i64 j/\vs=u/\Hid (∃sl:List SdR,sl.map SdR.s=(tl.take j).map (sdT o)/\Bl w wr/\SDs wr w.heap.size vs sl)) (λ_ t _=>n - (intOf t).toNat)
 case atStart=>exact⟨0,_,nZ _,rfl,rfl,hid ⟨[],rfl,g5.out.1,g5.out.2⟩⟩
 case round=>
  clear g5;obtain⟨j,vs,m3,rfl,rfl,HT⟩:=hrel;obtain⟨sl,i8,hB,hS⟩:=HT.out;have c9:=hid i8;have HB:=hid hB;have HS:=hid hS;clear HT i8 hB hS;by_cases g7:j < n
  ·have i1:(j:Int) < (n:Int):=Oo;obtain⟨b,oo,ea,v0,v1,v2,c0,c1,c2,hI⟩:=HC.out wr HB.out j g7;subst ea;have a3:sl.length=j:=by have:=congrArg List.length c9.out;rw[lM,lM,g2.out j m3]at this;exact this
   have m4:=hid (c7.out j g7);have HJ:=hid (b9.out j g7);generalize tl.getD j qC=tb at *;obtain⟨W2,d6⟩:∃W2,W2=wr.alloc (.cells #[v0,v1,v2] 34):=⟨_,rfl⟩;have d7:Bl wr W2:=by rw[d6];exact(bM _ _).alloc (bK _) _
   have g9:Hid (TX W2 wr.heap.size v0 v1 v2):=hid (by rw[d6];exact TX.made _ _ _ _);have h4:=hid (hI.below d7);have h5:=hid d7;obtain⟨a0,k0,e0,-⟩:=hI.vs;obtain⟨a1,k1,e1,-⟩:=hI.rows;obtain⟨a2,k2,e2,-⟩:=hI.ws;subst e0 e1 e2;have h6:=hid (JJ W2 (.slice ao no co) _ o tb.vs (HO.out.below (bt HB.out d7)) (by have:=i7.out;omega) h4.out.vs (by have:=HJ.out.vs;omega));have d0:=g9.out.c0;have m5:=HJ.out.n;have o7:=HJ.out.vs;have i9:Hid ((shr o tb.vs).length<=no):=hid (by rw[i7.out];exact X9 _ _);obtain⟨I,h7⟩:∃I,I=shr o tb.vs:=⟨_,rfl⟩;have m6:=hid h7;rw[<-h7]at h6 i9;have o6:=i9.out;clear h7 d7 hI HC b9 c7;go_upto_region 5 with fail
   rw[<-d6];clear d6 c0 c1 c2;go_wp2_with fail
   refine h6.out.mono ?_;rintro e w3 ⟨g3,c3,rfl,j0,d8⟩;have j1:=hid (bt h5.out d8);have a4:=hid (g9.out.below d8);have h8:=hid (h4.out.below d8);have h9:=hid (qF j0 h5.out.size);clear j0 d8 h6 d0 g9 h4 h5;obtain⟨W4,i0⟩:∃W4,W4=w3.alloc (.cells #[] 25):=⟨_,rfl⟩
   have d9:Hid (Bl w3 W4/\RQ W4 w3.heap.size (.slice (some ⟨w3.heap.size,0,none⟩) 0 0) [] []):=hid (by
    rw[i0];exact⟨(bM _ _).alloc (bK _) _,oM w3 #[] 0 (bK _) Dd rfl,rfl,λi hi=>by simp at hi,λi j _ V=>by simp at V⟩)
   have KV:Hid (∀W u i,Bl w3 W->i < tb.rows.length->IS W u (tb.rows.getD i [])->Cl 83 #[.agg #[.slice a0 tb.vs.length k0,.slice a1 tb.rows.length k1,.slice a2 tb.ws.length k2],u,.slice (some ⟨g3,0,none⟩) I.length c3] W λe w'=>∃v,e=.returned v/\w'.ownsRow W.heap.size 3 1 v (qp tb.vs I (tb.rows.getD i [])).length ((qp tb.vs I (tb.rows.getD i [])).map (Value.int .i64))/\Bl W w'):=hid λW u i hW hi hu=>
    Xz W _ _ _ u _ tb.vs (tb.rows.getD i []) I tb.rows.length tb.ws.length ⟨_,_,rfl⟩ ⟨_,_,rfl⟩ (h8.out.below hW).vs hu (qK (qB h9.out hW)) Oo (HJ.out.len _ (by rw[gD,bC hi];exact gM _)) Oo
   have HP:Hid (∀i,i < tb.rows.length->(tb.rows.take (i+1)).map (qp tb.vs I)=(tb.rows.take i).map (qp tb.vs I)++[qp tb.vs I (tb.rows.getD i [])]):=hid λi hi=>by
    rw[tA,bC hi,gD,bC hi,mA];rfl
   have e3:Hid (∀i,i<=tb.rows.length->((tb.rows.take i).map (qp tb.vs I)).length=i):=hid λi hi=>by rw[lM,bZ];omega
   have i3:Hid ((tb.rows.take tb.rows.length).map (qp tb.vs I)=tb.rows.map (qp tb.vs I)):=hid (by rw[tL])
   have i4:Hid (∀W,Bl w3 W->∀i,i < tb.rows.length->∃(b o:Nat) (u:Value),a1=some ⟨b,o,none⟩/\W.cell? ⟨b,o+i,none⟩=some u/\IS W u (tb.rows.getD i [])):=hid λW hW i hi=>by
    obtain⟨a',c',e,hh⟩:=(h8.out.below hW).rows;simp only[Value.slice.injEq]at e;obtain⟨rfl,-,-⟩:=e;rcases hh with h0|⟨b,o,rfl,hq⟩
    ·omega
    ·obtain⟨u,h1,h2⟩:=hq i hi;exact⟨b,o,u,rfl,h1,h2⟩
   have HM:Hid (∀r∈tb.rows.map (qp tb.vs I),r.length<=1099511627776):=hid λr hr=>by
    obtain⟨q,-,rfl⟩:=List.mem_map.1 hr;rw[ZS];omega
   obtain⟨nr,f4⟩:∃nr,nr=tb.rows.length:=⟨_,rfl⟩;rw[<-f4]at KV HP e3 i3 i4 m5 a4 ⊢;clear f4 h8;generalize tb.vs.length=l0 at *;generalize tb.ws.length=l2 at *;have d1:=a4.out.c1;go_upto_region 7 with fail
   rw[<-i0];clear i0;have d1:=(a4.out.below d9.out.1).c1;generalize wr=wo at *;go_wp2_with fail
   clear d1;go_loopw [9,27] (λu t wr=>∃(i:Nat) (vr:Value),i<=nr/\t=.int .i64 i/\vr=u/\Hid (∃uo,Bl w3 wr/\RQ wr w3.heap.size vr uo ((tb.rows.take i).map (qp tb.vs I)))) (λ_ t _=>nr - (intOf t).toNat)
   case atStart=>exact⟨0,_,nZ _,rfl,rfl,hid ⟨[],d9.out.1,d9.out.2⟩⟩
   case round=>
    clear d9;obtain⟨i,vr,m7,rfl,rfl,HT⟩:=hrel;obtain⟨uo,hB,hQ⟩:=HT.out;have K:=hid hB;have HQ:=hid hQ;clear HT hB hQ;by_cases a6:i < nr
    ·have i2:(i:Int) < (nr:Int):=Oo;obtain⟨b5,o5,u5,ea,e5,j2⟩:=i4.out wr K.out i a6;subst ea;have j3:=hid (KV.out wr u5 i K.out a6 j2);have m8:=hid (HP.out i a6);have e4:=e3.out i m7;have e6:=hid (a4.out.below K.out);have d0:=e6.out.c0;have d1:=e6.out.c1;have d2:=e6.out.c2;obtain⟨au,cu,rfl,-⟩:=j2;generalize (tb.rows.getD i []).length=lr at *;generalize qp tb.vs I (tb.rows.getD i [])=pr at *;go_wp2_with fail
     refine j3.out.mono ?_;rintro e w5 ⟨v5,rfl,e8,e9⟩;have j4:=hid (HQ.out.below e9);have m9:=hid (bt K.out e9);have a8:w3.heap.size<=wr.heap.size:=K.out.size;have n3:=hid (qF e8 a8)
     have n4:Hid (∀q,q < ((tb.rows.take i).map (qp tb.vs I)).length->∀g,(uo.getD q undef).ownBlock=some g->v5.ownBlock≠some g):=hid λq hq g h1 h2=>by
      have a1:=((HQ.out.each q hq).lt g h1).2;have a2:=(e8.lt g h2).1;omega
     have n5:w3.heap.size<=w5.heap.size:=bQ a8 e9.size;obtain⟨a5,k5,n6⟩:=jG e8;subst n6;clear e8 e9 j3 e5 K d0 d1 d2 e6 a8;have j5:w5.ownsRow w3.heap.size 25 1 vr i uo:=by have:=j4.out.own;rw[e4]at this;exact this
     have j6:=hid j5;clear j5;go_wp2_with (first|(at_builtin;refine wpList_append_lies _ rfl _ _ 24 rfl w3.heap.size 25 iS (.slice none 0 0) 1 24 Tryz.underlying24 V l7 l8 l9 rfl Dd vr _ uo rfl (j6.out.alloc _) ⟨_,0,none⟩ 1 1 [.slice a5 pr.length k5] rfl rfl (qH _ _ _) (λu hu=>by simp at hu;subst hu;rfl) Dd (by unfold maxLen;omega) Oo (by simp;omega) _ rfl ?_;intro g6 n8 w6 a9 M k4 k8)|fail)
     have HN:Hid (∃n9,Bl w3 w6/\RQ w6 w3.heap.size (.slice (some ⟨g6,0,none⟩) (i+1) n8) n9 ((tb.rows.take (i+1)).map (qp tb.vs I))):=hid ⟨_,(m9.out.alloc n5 _).grown M (by simp;omega) (λq hq=>(j6.out.lt q hq).1),by rw[m8.out];exact j4.out.step n3.out n4.out (by rw[e4];exact a9) M⟩;clear a9 M k4 k8;go_roundw
     case rel=>exact⟨i+1,_,Oo,Gg,rfl,HN⟩
     case measure=>simp[intOf];omega
    ·obtain rfl:i=nr:=Oo;have i2:¬((i:Int) < (i:Int)):=Oo;have e4:=e3.out i (bK _);rw[i3.out]at HQ e4;clear i4 KV HP e3 i3 a4;have KS:=hid (Vd (λu=>∀k,u.ownBlock=some k->w3.heap.size<=k) wr _ wr vr uo (tb.rows.map (qp tb.vs I)) (bK _) (bM _ _) HQ.out.rsx Oo HM.out);have o8:Hid ((srt (tb.rows.map (qp tb.vs I))).length<=10000):=hid (by have:=uM _ (tb.rows.map (qp tb.vs I)) (bK _);omega)
     have HE:Hid (∀w7 v7 b0,RSx (λu=>∀k,u.ownBlock=some k->w3.heap.size<=k) wr w7 v7 b0 (srt (tb.rows.map (qp tb.vs I)))->qD7 wr vr v7->Bl wr w7->ElS wo.heap.size w7 ⟨.slice (some ⟨g3,0,none⟩) I.length c3,v7,sdT o tb⟩/\Bl wo w7):=hid λw7 v7 b0 h1 h2 h3=>by
      have o2:sdT o tb=⟨I,srt (tb.rows.map (qp tb.vs I))⟩:=by unfold sdT;rw[<-m6.out]
      rw[o2];have hle:=j1.out.size;refine⟨qFn (qB (qB h9.out K.out) h3) h3 (us:=b0) ⟨h1.sl,h1.len,λi hi=>⟨(h1.each i hi).1,λk hk=>bQ hle ((h1.each i hi).2 k hk)⟩⟩ (λk hk=>?_),bt j1.out (bt K.out h3)⟩;rcases h2 with h2|h2
      ·rw[h2]at hk;exact bQ hle (HQ.out.own.lt k hk).1
      ·exact bQ hle (bQ K.out.size (h2 k hk))
     generalize hR:srt (tb.rows.map (qp tb.vs I))=R at *;clear hR HM HQ K h9;go_wp2_with fail
     refine KS.out.mono ?_;rintro e w7 ⟨v7,b0,rfl,f7,k9,l1⟩;have U:=hid (HE.out w7 v7 b0 f7 k9 l1);obtain⟨⟨a7,k7,e7,-,-⟩,-,-⟩:=f7;subst e7;have o3:w.heap.size<=w7.heap.size:=bQ HB.out.size U.out.2.size;have l3:w7.ownsRow w.heap.size 141 2 vs j (sl.flatMap scs):=by have:=(HS.out.below U.out.2).own;rw[a3]at this;exact this
     have i5:=hid l3;clear l1 KS HE k9 l3;generalize R.length=lR at *;generalize I.length=lsv at *;go_wp2_with (first|(at_builtin;refine wpList_append_lies _ rfl _ _ 92 rfl w.heap.size 141 iD (.agg #[.slice none 0 0,.slice none 0 0]) 2 48 Tryz.underlying92 hd m0 m1 m2 rfl Dd vs _ _ rfl (i5.out.alloc _) ⟨_,0,none⟩ 1 1 [.slice (some ⟨g3,0,none⟩) lsv c3,.slice a7 lR k7] rfl rfl (qAv _ _ _ _) (λu hu=>by simp at hu;rcases hu with rfl|rfl <;> rfl) Dd (by unfold maxLen;omega) Oo (by simp;omega) _ rfl ?_;intro g8 o4 w8 b7 O f8 l4)|fail)
     have HN:Hid (∃l5:List SdR,l5.map SdR.s=(tl.take (j+1)).map (sdT o)/\Bl w w8/\SDs w8 w.heap.size (.slice (some ⟨g8,0,none⟩) (j+1) o4) l5):=hid ⟨sl++[⟨.slice (some ⟨g3,0,none⟩) lsv c3,.slice a7 lR k7,sdT o tb⟩],by rw[m4.out,mA,mA,c9.out];rfl,((bt HB.out U.out.2).alloc o3 _).grown O (by simp;omega) (λq hq=>(i5.out.lt q hq).1),by
      have:=HS.out.push U.out.2 U.out.1 O (by rw[a3];exact b7) f8;rw[a3]at this;exact this⟩
     clear b7 O f8 l4 U i5;go_roundw
     case rel=>exact⟨j+1,_,Oo,Gg,rfl,HN⟩
     case measure=>simp[intOf];omega
  ·obtain rfl:j=n:=Oo;have i1:¬((j:Int) < (j:Int)):=Oo;have HF:Hid (ISds wr vs (tl.map (sdT o))/\Bl w wr):=hid ⟨by have:=HS.out.isds;rw[c9.out,f9.out]at this;exact this,HB.out⟩;clear HS HB c9 HC b9 c7 f9 g2;go_wp2_with fail
   go_ret;exact⟨_,rfl,HF.out.1,HF.out.2⟩
def yF(tl:List TbV)(o:List Int):List Sd:=(tl.map (sdT o)).map (sdO o)
def nxJ(tl:List TbV)(o:List Int):List Int->List Int:=xA (yF tl o)
theorem uK(tl:List TbV)(o:List Int):∀s∈yF tl o,s.Ok:=λs hs=>by
 obtain⟨m,I,rfl⟩:=List.mem_map.1 hs;obtain⟨t,-,rfl⟩:=List.mem_map.1 I;exact qB9 (yh o t)
def xB(tl:List TbV):Bool:=tl.any λt=>decide (t.rows.length=0)
def lvJ(tl:List TbV)(o:List Int)(j:Nat):List (List Int):=if xB tl then [] else xt (nxJ tl o) [] j
theorem Uq(tl:List TbV)(o:List Int)(j:Nat):lvJ tl o (j+1)=(lvJ tl o j).flatMap λq=>(nxJ tl o q).map λv=>q++[v]:=by
 unfold lvJ;by_cases h:xB tl
 ·rw[if_pos h,if_pos h];rfl
 ·rw[if_neg h,if_neg h];rfl
def smJ(tl:List TbV)(o:List Int)(j:Nat):Bool:=(List.range j).all λi=>decide ((lvJ tl o (i+1)).length<=10000)
def viJ(tl:List TbV)(o:List Int)(j:Nat):Nat:=((List.range j).map λi=>(lvJ tl o (i+1)).length).sum
theorem ZL(tl:List TbV)(o:List Int)(j:Nat):smJ tl o (j+1)=(smJ tl o j&&decide ((lvJ tl o (j+1)).length<=10000)):=by
 unfold smJ;rw[List.range_succ,List.all_append];simp
theorem Ur(tl:List TbV)(o:List Int)(j:Nat):viJ tl o (j+1)=viJ tl o j+(lvJ tl o (j+1)).length:=by
 unfold viJ;rw[List.range_succ,mA,List.sum_append];simp
theorem Yl{k:Nat}(I:j < k)(h:¬(lvJ tl o (j+1)).length<=10000):smJ tl o k=false:=by
 unfold smJ;rw[List.all_eq_false];exact⟨j,List.mem_range.2 I,by simpa using h⟩
theorem qCA{tl:List TbV}{o:List Int}:∀{j:Nat},smJ tl o j=true->viJ tl o j<=j*10000
 |0,_=>bK _
 |j+1,h=>by
  rw[ZL,bA,dE]at h;rw[Ur];have:=qCA h.1;omega
theorem ZM(tl:List TbV)(o:List Int):(lvJ tl o 0).length<=1:=by
 unfold lvJ;by_cases h:xB tl
 ·rw[if_pos h];exact nZ _
 ·rw[if_neg h];exact bK _
theorem qFj:∀{j:Nat},smJ tl o j=true->(lvJ tl o j).length<=10000
 |0,_=>bQ (ZM tl o) Dd
 |j+1,h=>by
  rw[ZL,bA,dE]at h;exact h.2
theorem Xp:∀q∈lvJ tl o j,q.length=j:=λq hq=>by
 unfold lvJ at hq;by_cases h:xB tl
 ·rw[if_pos h]at hq;cases hq
 ·rw[if_neg h]at hq;have:=Uj _ _ j q hq;simpa using this
theorem Us(tl:List TbV)(o:List Int):Hld (yF tl o) []:=λs _=>Or.inl (by unfold prt;rfl)
theorem qAA:∀q∈lvJ tl o j,Hld (yF tl o) q:=λq hq=>by
 unfold lvJ at hq;by_cases h:xB tl
 ·rw[if_pos h]at hq;cases hq
 ·rw[if_neg h]at hq;exact Um (uK tl o) (Us tl o) j q hq
theorem qFk(R:List (List Int))(q:List Int)(k n:Nat):(VA R q k n).length<=n:=by
 unfold VA;rw[lM];exact qFw _ _
theorem qCB(m:Nat)(R:List (List Int))(q:List Int):(nN m R q).length<=R.length:=by
 unfold nN;by_cases h:q.length < m
 ·rw[if_pos h];have:=qFk R q (kA R q) (nA R q);have I:=(XA (R:=R) (q:=q)).le;omega
 ·rw[if_neg h];exact nZ _
theorem ud(o:List Int)(t:TbV):(sdT o t).rows.length<=t.rows.length:=by
 have:=uM _ (t.rows.map (qp t.vs (shr o t.vs))) (bK _);rw[lM]at this;exact this
theorem qEd(I:∀t∈tl,TvJ t)(p:List Int):(nxJ tl o p).length<=10000:=by
 unfold nxJ xA;cases hf:(yF tl o).find? (λs=>s.H p.length)with
 |none=>exact nZ _
 |some f=>
  have M:=List.mem_of_find?_eq_some hf;unfold yF at M;obtain⟨m,K,rfl⟩:=List.mem_map.1 M;obtain⟨t,O,rfl⟩:=List.mem_map.1 K;show(vO (yF tl o) (sdO o (sdT o t)) p).length<=10000;unfold vO;refine bQ (List.length_filter_le _ _) (bQ (qCB _ _ _) (bQ (ud o t) (I t O).n))
theorem vA{vs:List Int}(hi:i < o.length):qN o (shr o vs) i=decide (o.getD i 0∈vs):=by
 unfold qN;by_cases h:o.getD i 0∈vs
 ·rw[decide_eq_true h];refine decide_eq_true (List.mem_filter.2 ⟨?_,decide_eq_true h⟩);rw[gD,bC hi];exact gM hi
 ·rw[decide_eq_false h];exact decide_eq_false λI=>h (Yu I)
theorem qEe(H:Nat->Bool)(p:List Int):(prt H p).length=((List.range p.length).filter H).length:=by
 unfold prt;rw[lM]
theorem QK{l:List Int}{q:Int->Bool}:∀k,k<=l.length->((l.take k).filter q).length=((List.range k).filter λi=>q (l.getD i 0)).length
 |0,_=>rfl
 |k+1,h=>by
  have I:=QK (l:=l) (q:=q) k Oo;rw[List.range_succ,List.filter_append,lA,<-I,zA (show k < l.length by omega),List.filter_append,lA];congr 1;by_cases e:q (l.getD k 0)
  ·simp only[List.filter_cons,e,if_true,List.filter_nil,List.length_cons,List.length_nil]
  ·simp only[List.filter_cons,e,if_false,List.filter_nil,List.length_nil,Bool.false_eq_true]
theorem qEf{vs:List Int}(hp:p.length<=o.length):(prt (qN o (shr o vs)) p).length=((o.take p.length).filter λx=>decide (x∈vs)).length:=by
 rw[qEe,QK p.length hp];congr 1;refine List.filter_congr λi hi=>?_;exact vA (by have:=List.mem_range.1 hi;omega)
theorem qFl{vs:List Int}(hp:p.length < o.length):(prt (qN o (shr o vs)) p).length<=(shr o vs).length/\(qN o (shr o vs) p.length=true->(prt (qN o (shr o vs)) p).length < (shr o vs).length):=by
 have e:o.take (p.length+1)++o.drop (p.length+1)=o:=tD _ _
 have hs:(shr o vs).length=((o.take p.length).filter λx=>decide (x∈vs)).length+(if o.getD p.length 0∈vs then 1 else 0)+((o.drop (p.length+1)).filter λx=>decide (x∈vs)).length:=by
  unfold shr;conv=>lhs;rw[<-e]
  rw[List.filter_append,lA,zA hp,List.filter_append,lA];congr 1;congr 1;by_cases h:o.getD p.length 0∈vs
  ·rw[if_pos h];simp only[List.filter_cons,decide_eq_true h,if_true,List.filter_nil,List.length_cons,List.length_nil]
  ·rw[if_neg h];simp only[List.filter_cons,decide_eq_false h,List.filter_nil,List.length_nil,Bool.false_eq_true,if_false]
 rw[qEf Oo,hs];refine⟨Oo,λh=>?_⟩;rw[vA hp,dE]at h;rw[if_pos h];omega
def QL(tl:List TbV)(o:List Int):Prop:=∀i,i < o.length->∃t∈tl,o.getD i 0∈t.vs
theorem qGC(h:QL tl o)(hi:i < o.length):zU o (tl.map (sdT o)) i < (tl.map (sdT o)).length:=by
 obtain⟨t,I,K⟩:=h i hi;exact qEh ⟨sdT o t,List.mem_map_of_mem I,by show qN o (shr o t.vs) i=true;rw[vA hi];exact decide_eq_true K⟩
open Agm
def nR(R:List (List Int))(q:List Int):Nat:=R.countP λr=>q.isPrefixOf r
theorem qD9{u v:Int}(I:(q++[u]) <+:r)(K:(q++[v]) <+:r):u=v:=by
 have h:=List.prefix_of_prefix_length_le I K Ss;have:=h.eq_of_length Ss;simpa using this
theorem qBb{q r:List Int}:∀{vs:List Int},vs.Pairwise (·< ·)->(vs.map λv=>if (q++[v]).isPrefixOf r then 1 else 0).sum<=if q.isPrefixOf r then 1 else 0
 |[],_=>nZ _
 |v::vs,h=>by
  have hp:=List.pairwise_cons.1 h;rw[List.map_cons,List.sum_cons];by_cases e:(q++[v]).isPrefixOf r=true
  ·have I:=List.isPrefixOf_iff_prefix.1 e;have K:q.isPrefixOf r=true:=List.isPrefixOf_iff_prefix.2 ((List.prefix_append q [v]).trans I)
   have M:(vs.map λv=>if (q++[v]).isPrefixOf r then 1 else 0).sum=0:=js (b:=λv=>if (q++[v]).isPrefixOf r then 1 else 0) λu O=>by
    rw[if_neg λU=>?_];have:=qD9 (List.isPrefixOf_iff_prefix.1 U) I;have:=hp.1 u O;omega
   rw[M,if_pos e,if_pos K];omega
  ·rw[if_neg e];have:=qBb (q:=q) (r:=r) hp.2;omega
theorem Vs{β:Type}(f g:β->Nat):∀xs:List β,(xs.map λx=>f x+g x).sum=(xs.map f).sum+(xs.map g).sum
 |[]=>rfl
 |x::xs=>by
  simp only[List.map_cons,List.sum_cons];rw[Vs f g xs];omega
theorem Kn(r:List Int)(R:List (List Int))(q:List Int):nR (r::R) q=nR R q+if q.isPrefixOf r then 1 else 0:=by
 unfold nR;rw[List.countP_cons]
theorem Vt{vs:List Int}(h:vs.Pairwise (·< ·))(q:List Int):∀R:List (List Int),(vs.map λv=>nR R (q++[v])).sum<=nR R q
 |[]=>by
  rw[js (b:=λv=>nR [] (q++[v])) λ_ _=>rfl];exact nZ _
 |r::R=>by
  have I:=Vt h q R;have K:=qBb (q:=q) (r:=r) h;have e:(vs.map λv=>nR (r::R) (q++[v]))=vs.map λv=>nR R (q++[v])+if (q++[v]).isPrefixOf r then 1 else 0:=List.map_congr_left λv _=>Kn r R _
  rw[e,Vs,Kn];omega
theorem qFI{s:Sd}(I:0 < s.rs.length)(h:s.D q):0 < nR s.rs q:=by
 unfold nR;rw[List.countP_pos_iff];rcases h with rfl|⟨r,hr,h⟩
 ·exact⟨s.rs[0],gM I,rfl⟩
 ·exact⟨r,hr,List.isPrefixOf_iff_prefix.2 h⟩
theorem qFJ(R:List (List Int)):nR R []=R.length:=by
 unfold nR;rw[List.countP_eq_length];intro r _;rfl
theorem Ko:∀{l:List Nat},(∀x∈l,0 < x)->0 < prN l
 |[],_=>Nat.one_pos
 |x::l,h=>Nat.mul_pos (h x List.mem_cons_self) (Ko (l:=l) λy I=>h y (mC _ I))
theorem Vu{α β:Type}(f:α->List β):∀l:List α,(l.flatMap f).length=(l.map λx=>(f x).length).sum
 |[]=>rfl
 |x::l=>by rw[List.flatMap_cons,lA,Vu f l,List.map_cons,List.sum_cons]
theorem Kq{T:List (Sd×Nat)}(K:∀t∈T,t.1.Ok)(M:∀t∈T,0 < t.1.rs.length){D:Nat}(hD:1<=D):∀(j:Nat) (p:List Int),Hld (T.map Prod.fst) p->
 (∀i,p.length<=i->i < p.length+j->D<=((T.filter λt=>t.1.H i).map Prod.snd).sum)->(xt (xA (T.map Prod.fst)) p j).length ^ D<=prN (T.map λt=>nR t.1.rs (prt t.1.H p) ^ t.2)
 |0,p,hp,_=>by
  show 1 ^ D<=_;rw[Nat.one_pow];refine Ko λx hx=>?_;obtain⟨t,U,rfl⟩:=List.mem_map.1 hx;exact Nat.pow_pos (qFI (M t U) (hp t.1 (List.mem_map_of_mem U)))
 |j+1,p,hp,hc=>by
  have I:∀s∈T.map Prod.fst,s.Ok:=λs hs=>by
   obtain⟨t,U,rfl⟩:=List.mem_map.1 hs;exact K t U
  rw[QG,Vu];have O:=Ul I hp;refine qFH (T:=T) (xs:=xA (T.map Prod.fst) p) (a:=Prod.snd) (f:=λt=>t.1.H p.length) (c:=λt v=>nR t.1.rs (prt t.1.H (p++[v]))) (C:=λt=>nR t.1.rs (prt t.1.H p)) (b:=λv=>(xt (xA (T.map Prod.fst)) (p++[v]) j).length) hD (λt _ V=>?_) (λt _ V v _=>?_) (hc p.length (bK _) Oo) (λv hv=>?_)
  ·have e:((xA (T.map Prod.fst) p).map λv=>nR t.1.rs (prt t.1.H (p++[v])))=(xA (T.map Prod.fst) p).map λv=>nR t.1.rs (prt t.1.H p++[v]):=List.map_congr_left λv _=>by rw[y9,if_pos V]
   show((xA (T.map Prod.fst) p).map λv=>nR t.1.rs (prt t.1.H (p++[v]))).sum<=_;rw[e];exact Vt O _ _
  ·show nR t.1.rs (prt t.1.H (p++[v]))<=nR t.1.rs (prt t.1.H p);have a2:t.1.H p.length=false:=V;rw[y9,a2,if_neg Dd,List.append_nil];exact bK _
  ·exact Kq K M hD j (p++[v]) (hp.snoc I hv) λi h1 h2=>hc i (by simp at h1;omega) (by simp at h2;omega)
theorem qEA{T:List (Sd×Nat)}{n:Nat}(h:∀t∈T,t.1.rs.length<=n):prN (T.map λt=>nR t.1.rs [] ^ t.2)<=n ^ (T.map Prod.snd).sum:=by
 induction T with
 |nil=>exact bK _
 |cons t T ih=>
  have I:=ih λu K=>h u (mC _ K);show nR t.1.rs [] ^ t.2*prN (T.map λt=>nR t.1.rs [] ^ t.2)<=n ^ (t.2+(T.map Prod.snd).sum);rw[qFJ,Nat.pow_add];exact Nat.mul_le_mul (Nat.pow_le_pow_left (h t List.mem_cons_self) _) I
theorem qBc{T:List (Sd×Nat)}(I:∀t∈T,t.1.Ok)(K:∀t∈T,0 < t.1.rs.length){n:Nat}(M:1<=D)(O:∀t∈T,t.1.rs.length<=n)
 (U:∀i,i < j->D<=((T.filter λt=>t.1.H i).map Prod.snd).sum):(xt (xA (T.map Prod.fst)) [] j).length ^ D<=n ^ (T.map Prod.snd).sum:=by
 have h:=Kq I K M j [] (λs _=>Or.inl (by unfold prt;rfl)) λi _ V=>U i (by simpa using V);refine bQ h (bQ (Nat.le_of_eq ?_) (qEA O));congr 1
theorem Jj{M n A u d:Nat}(K:1<=D)(h:M ^ D<=n ^ A)(e:u*D=d*A):M ^ d<=n ^ u:=by
 have I:(M ^ d) ^ D<=(n ^ u) ^ D:=by
  rw[<-Nat.pow_mul,<-Nat.pow_mul,Nat.mul_comm d D,Nat.pow_mul,e,Nat.mul_comm d A,Nat.pow_mul];exact Nat.pow_le_pow_left h d
 exact(Nat.pow_le_pow_iff_left Oo).1 I
end Go.Proofs.YtkaipapdlnojiaaGreat
