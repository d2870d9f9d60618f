import Derived.Test.YtcnfapnfmnolbaaGreatRq14
import Derived.Test.YtcnfapnfmnolbaaGreatRq25
set_option maxHeartbeats 40000000
set_option maxRecDepth 1000000
namespace Go.Proofs.YtcnfapnfmnolbaaGreat
open Go.RowKit Meet
variable {l o p q xs:LI}{ls:LL}{tl:List TbV}{us:List Value}{B c i j k m:Nat}{v:Value}{W W' w:World}
theorem ug(w:World)(vt:Value)(tl:List TbV)(h:ITs w vt tl)(hl:tl.length<=1048576):
 Cl 50 #[vt] w λe w'=>∃v,e=.returned v/\ISS w' v (tl.map TbV.vs)/\Bl w w':=by
 obtain⟨iS,U,b0,b1,b7⟩:=info_parts Tryz.infoIS;obtain⟨d6,ct,rfl,hc⟩:=h;have HC:Hh (∀W,Bl w W->∀j,j<tl.length->∃b oo v0,d6=some (az b oo)/\TabAt W b (oo+j*3) (tl.getD j qA)/\W.cell? (az b (oo+j*3))=some v0/\IS w v0 (tl.getD j qA).vs):=ay λW hW j U=>by
  rcases hc with h0|⟨b,oo,rfl,h⟩;omega;obtain⟨v0,v1,v2,c0,c1,c2,hI⟩:=h j U;exact⟨b,oo,v0,rfl,(h j U).below hW,xL hW c0,hI.vs⟩
 have HE:Hh (∀(W:World) (v:Value) (us:List Value),Bl w W->W.ownsRow w.1.size 24 1 v tl.length us->(∀i,i<tl.length->IS w (us.getD i undef) (tl.getD i qA).vs)->ISS W v (tl.map TbV.vs)):=ay λW v us hW ho hu=>by
  have eg:∀i,i<tl.length->(tl.map TbV.vs).getD i []=(tl.getD i qA).vs:=λi hi=>by rw[gD,bK,gD,gE hi];rfl
  have e5:=ho.1;rcases ho.2 with ⟨rfl,hn⟩|⟨g,cap,cur,rfl,e6,hh,hn,-,-,ht⟩;exact⟨none,0,by rw[lM,hn],Or.inl (by rw[lM];exact hn)⟩;refine⟨_,cap,by rw[lM],Or.inr ⟨g,0,rfl,λj U=>?_⟩⟩;rw[lM]at U;refine⟨us.getD j undef,?_,by rw[eg j U];exact(hu j U).below hW⟩;rw[Nat.zero_add,cell_of_row _ _ _ _ _ _ hh,<-Array.getElem?_toList,<-List.getElem?_take_of_lt (by omega:j<tl.length*1),ht,gD,gE Oo];rfl
 obtain⟨n,hn⟩:=Ex tl.length;rw[<-hn]at hl HC HE ⊢;clear hn hc;obtain⟨Wm,V,K,a3⟩:=run_makeSlice_owned (P:=Tryz.prog) w w.1.size 23 24 iS sn 1 Tryz.underlying23 U b0 b1 .i64 .i64 n Oo (by rw[b7];omega) Um Oo;have d7:Sem.run Tryz.prog (Instr.makeSlice 23 (ai 0) (ai (n:Int))) w=.ok (.slice (some (az w.1.size 0)) 0 n) Wm:=V;have b8:Bl w Wm:=(bJ _ _).grown a3 (nR _) (λk hk=>by cases hk);have b9:=ay b8;have c7:=ay K;clear V K a3 b8;go_enter Tryz.func50,Tryz.ntmps50;go_upto_block 0 with fail;clear d7;go_wp2_with fail;go_loopw [3,11] (λu t wr=>∃(j:Nat) (vv:Value),j<=n/\t=ai j/\vv=u/\Hh (∃us,Bl w wr/\wr.ownsRow w.1.size 24 1 vv j us/\∀i,i<j->IS w (us.getD i undef) (tl.getD i qA).vs)) (λ_ t _=>n-(intOf t).toNat);exact⟨0,_,nZ _,rfl,rfl,ay ⟨[],b9.o,c7.o,λi hi=>Oo⟩⟩;clear b9 c7;obtain⟨j,vv,e7,rfl,rfl,HT⟩:=hrel;obtain⟨us,hB,hO,hU⟩:=HT.o;have HB:=ay hB;have HO:=ay hO;have HU:=ay hU;clear HT hB hO hU;by_cases d8:j<n
 ·have i1:(j:Int)<(n:Int):=Oo;obtain⟨b,oo,d9,ea,⟨v0,v1,v2,c0,c1,c2,hI⟩,a4,c8⟩:=HC.o wr HB.o j d8;subst ea;obtain rfl:d9=v0:=by rw[c0]at a4;exact(Option.some.inj a4).symm
  obtain⟨a0,k0,e0,-⟩:=hI.vs;obtain⟨a1,k1,e1,-⟩:=hI.rows;obtain⟨a2,k2,e2,-⟩:=hI.ws;subst e0 e1 e2;have c9:=ay c8;clear a4 hI c8;generalize (tl.getD j qA).rows.length=nr at *;generalize (tl.getD j qA).ws.length=n2 at *;obtain⟨W3,M⟩:=Ex (wr.alloc (.cells #[.slice a0 (tl.getD j qA).vs.length k0,.slice a1 nr k1,.slice a2 n2 k2] 61));have a5:Bl wr W3:=by rw[M];exact(bJ _ _).alloc (nR _) _
  have d0:W3.cell? (az wr.1.size 0)=some (.slice a0 (tl.getD j qA).vs.length k0):=by rw[M,bE _ _ _ _ rfl];rfl
  have a6:=ay (bt HB.o a5);have a7:=ay (qB HO.o a5);have e3:=a6.o.size;clear a5;have d1:us.length=j:=by have:=HO.o.1;omega
  have a8:=ay d1;clear d1;obtain⟨nv,a9⟩:=Ex ((tl.getD j qA).vs.length);rw[<-a9]at c0 d0 M;have d2:Hh (IS w (.slice a0 nv k0) (tl.getD j qA).vs):=ay (by rw[a9];exact c9.o);clear a9 c9;go_upto_region 5 with fail;rw[<-M];clear M c0 c1 c2;go_wp2_with (first|(at_builtin;refine wpList_append_lies _ rfl _ _ 23 rfl w.1.size 24 iS sn 1 24 Tryz.underlying23 U b0 b1 b7 rfl Dd vv _ us rfl (a7.o.alloc _) (az _ 0) 1 1 [.slice a0 nv k0] rfl rfl (qH _ _ _) (λu hu=>by simp at hu;subst hu;rfl) Dd Um Oo Sy _ rfl ?_;intro g6 e4 w6 O I d3 d4)|fail);have HN:Hh (∃d5,Bl w w6/\w6.ownsRow w.1.size 24 1 (.slice (some (az g6 0)) (j+1) e4) (j+1) d5/\∀i,i<j+1->IS w (d5.getD i undef) (tl.getD i qA).vs):=ay ⟨us++[.slice a0 nv k0],(a6.o.alloc e3 _).grown I Sy (λq hq=>(a7.o.lt q hq).1),O,λi hi=>by
   by_cases e:i<j;rw[gD,aL (by rw[a8.o];exact e),<-gD];exact HU.o i e;obtain rfl:i=j:=Oo;rw[gD,bQ (by rw[a8.o];exact nR _),a8.o,Nat.sub_self];exact d2.o⟩
  clear O I d3 d4 a6 a7;go_roundw;exact⟨j+1,_,Oo,Gg,rfl,HN⟩;exact Im
 obtain rfl:j=n:=Oo;have i1:¬((j:Int)<(j:Int)):=Oo;have HF:=ay (HE.o wr vv us HB.o HO.o HU.o);clear HC HE HO HU;go_wp2_with fail;go_ret;exact⟨vv,rfl,HF.o,HB.o⟩
def xP(tl:List TbV)(o:LI):LL:=o.map λx=>plc (λi=>decide (x∈(tl.map TbV.vs).getD i [])) (tl.map TbV.vs).length
theorem XD(w:World)(vt vo:Value)(tl:List TbV)(o:LI)(h:ITs w vt tl)(ho:IS w vo o)(hl:tl.length<=1000)(d9:o.length<=1000)(b7:∀t∈tl,t.vs.length<=1000):
 Cl 110 #[vo,vt] w λe w'=>∃v us,e=.returned v/\RQ w' w.1.size v us (xP tl o)/\(∃g,v.ownBlock=some g)/\Bl w w':=by
 obtain⟨iS,V,b8,b9,c7⟩:=info_parts Tryz.infoIS;have KE:Hh (∀W,Bl w W->Cl 50 #[vt] W λe w'=>∃v,e=.returned v/\ISS w' v (tl.map TbV.vs)/\Bl W w'):=ay λW hW=>ug W vt tl (h.below hW) Oo;have KW:Hh (∀W v x,ISS W v (tl.map TbV.vs)->Cl 96 #[ai x,v] W λe w'=>∃v',e=.returned v'/\w'.ownsRow W.1.size 3 1 v' (plc (λi=>decide (x∈(tl.map TbV.vs).getD i [])) (tl.map TbV.vs).length).length ((plc (λi=>decide (x∈(tl.map TbV.vs).getD i [])) (tl.map TbV.vs).length).map ai)/\Bl W w'):=ay λW v x hv=>yG W v x _ hv ⟨by rw[lM];omega,λj=>by
  rw[gD,bK];cases e:tl[j]? with
  |none=>exact nZ _
  |some t=>have:=b7 t (List.mem_of_getElem? e);show t.vs.length<=_;omega⟩
 obtain⟨e9,ct,rfl,-⟩:=h;obtain⟨ao,co,rfl,c8⟩:=ho;have HC:Hh (∀W,Bl w W->∀j,j<o.length->∃b oo,ao=some (az b oo)/\W.cell? (az b (oo+j))=some (ai (o.getD j 0))):=ay λW hW j V=>by
  rcases c8 with h0|⟨b,oo,rfl,h⟩;omega;exact⟨b,oo,rfl,xL hW (h j V)⟩
 have HP:Hh (∀j,j<o.length->xP tl (o.take (j+1))=xP tl (o.take j)++[plc (λi=>decide (o.getD j 0∈(tl.map TbV.vs).getD i [])) (tl.map TbV.vs).length]):=ay λj V=>by
  unfold xP;rw[qy V,mA];rfl
 have a4:Hh (∀j,j<=o.length->(xP tl (o.take j)).length=j):=ay λj V=>by unfold xP;rw[lM,bW];omega
 have a8:Hh (xP tl (o.take o.length)=xP tl o):=ay (by rw[tL]);have e0:Hh (xP tl (o.take 0)=[]):=ay rfl;obtain⟨n,hn⟩:=Ex o.length;rw[<-hn]at d9 HC HP a4 a8 ⊢;clear hn c8 b7;obtain⟨nT,c9⟩:=Ex tl.length;rw[<-c9]at hl KE ⊢;clear c9;obtain⟨Wm,a6,K,a7⟩:=run_makeSlice_owned (P:=Tryz.prog) w w.1.size 23 24 iS sn 1 Tryz.underlying23 V b8 b9 .i64 .i64 n Oo (by rw[c7];omega) Um Oo;have e1:Sem.run Tryz.prog (Instr.makeSlice 23 (ai 0) (ai (n:Int))) w=.ok (.slice (some (az w.1.size 0)) 0 n) Wm:=a6;have d0:Bl w Wm:=(bJ _ _).grown a7 (nR _) (λk hk=>by cases hk);have d1:=ay d0;have d2:=ay K;clear a6 K a7 d0;go_enter Tryz.func110,Tryz.ntmps110;go_upto_block 0 with fail;clear e1;go_wp2_with fail;go_loopw [5,13] (λu t wr=>∃(j:Nat) (vv:Value),j<=n/\t=ai j/\vv=u/\Hh (∃us,Bl w wr/\RQ wr w.1.size vv us (xP tl (o.take j))/\∃g,vv.ownBlock=some g)) (λ_ t _=>n-(intOf t).toNat);exact⟨0,_,nZ _,rfl,rfl,ay ⟨[],d1.o,(by rw[e0.o];exact⟨d2.o,rfl,λi hi=>by simp at hi,λi j _ V=>by simp at V⟩),_,rfl⟩⟩;clear d1 d2;obtain⟨j,vv,e2,rfl,rfl,HT⟩:=hrel;obtain⟨us,hB,hQ,hg⟩:=HT.o;have HG:=ay hg;have HB:=ay hB;have HQ:=ay hQ;clear HT hB hQ hg;by_cases d3:j<n
 ·have i1:(j:Int)<(n:Int):=Oo;obtain⟨b,oo,ea,c1⟩:=HC.o wr HB.o j d3;subst ea;have e4:=ay (HP.o j d3);have d4:=a4.o j e2;have e5:=ay (KE.o wr HB.o);have e6:Hh (∀W v,ISS W v (tl.map TbV.vs)->_):=ay λW v hv=>KW.o W v (o.getD j 0) hv;generalize plc (λi=>decide (o.getD j 0∈(tl.map TbV.vs).getD i [])) (tl.map TbV.vs).length=pj at *;generalize o.getD j 0=ov at *;clear HC HP a4 KE KW;go_wp2_with (first
   |(go_at_call 50;refine e5.o.mono ?_;rintro e w2 ⟨v2,rfl,d5,M⟩)
   |(go_at_call 96;refine(e6.o w2 v2 d5).mono ?_;rintro e w3 ⟨v3,rfl,a5,a9⟩;have b0:=HQ.o.below (bt M a9);have b1:=bt HB.o (bt M a9);have e7:=b1.size;have O:w3.ownsRow w.1.size 24 1 vv j us:=(by have:=b0.own;rw[d4]at this;exact this);obtain⟨a3,k3,e3⟩:=qg a5;subst e3)
   |(at_builtin;refine wpList_append_lies _ rfl _ _ 23 rfl w.1.size 24 iS sn 1 24 Tryz.underlying23 V b8 b9 c7 rfl Dd vv _ us rfl (O.alloc _) (az _ 0) 1 1 [.slice a3 pj.length k3] rfl rfl (qH _ _ _) (λu hu=>by simp at hu;subst hu;rfl) Dd Um Oo Sy _ rfl ?_;intro g6 d6 w6 U I d7 d8)
   |fail)
  have HN:Hh (∃e8,Bl w w6/\RQ w6 w.1.size (.slice (some (az g6 0)) (j+1) d6) e8 (xP tl (o.take (j+1)))/\∃g,(Value.slice (some (az g6 0)) (j+1) d6).ownBlock=some g):=ay ⟨us++[.slice a3 pj.length k3],(b1.alloc e7 _).grown I Sy (λq hq=>(O.lt q hq).1),(by
   rw[e4.o];exact b0.step (qF a5 (bM HB.o.size M.size)) (λi hi g h1 h2=>by
    have a1:=((HQ.o.each i hi).lt g h1).2;have a2:=(a5.lt g h2).1;have:=M.size;omega) (by rw[d4];exact U) I),_,rfl⟩
  clear U I d7 d8 b0 b1 O a5 d5 M a9;go_roundw;exact⟨j+1,_,Oo,Gg,rfl,HN⟩;exact Im
 obtain rfl:j=n:=Oo;have i1:¬((j:Int)<(j:Int)):=Oo;rw[a8.o]at HQ;clear HC KE KW HP a4 a8;go_wp2_with fail;go_ret;exact⟨vv,rfl,⟨us,HQ.o⟩,HG.o,HB.o⟩
structure TvF(t:TbV):Prop where
 vs:t.vs.length<=9223372036854775807
 rows:Fits t.rows
 ws:t.ws.length<=9223372036854775807
def szB(t:TbV):Nat:=t.vs.length+tot t.rows t.rows.length+t.ws.length
def xM(tl:List TbV):Nat:=(tl.map szB).sum
theorem VQ(w:World)(v:Value)(tl:List TbV)(left:Nat)(h:ITs w v tl)(hl:tl.length<=9223372036854775807)(hs:∀t∈tl,TvF t)(hle:left<=1048576):
 Cl 4 #[v,ai (left:Int)] w λe w'=>∃x:Int,e=.returned (ai x)/\(0<=x->tl.length+xM tl<=left/\x<=1048576)/\Bl w w':=by
 obtain⟨a7,ct,rfl,hc⟩:=h;have HC:Hh (∀W,Bl w W->∀j,j<tl.length->∃b V,a7=some (az b V)/\TabAt W b (V+j*3) (tl.getD j qA)):=ay λW hW j O=>by
  rcases hc with h0|⟨b,V,rfl,h⟩;omega;exact⟨b,V,rfl,(h j O).below hW⟩
 have HR:Hh (∀j,j<tl.length->TvF (tl.getD j qA)):=ay λj O=>hs _ (by rw[gD,gE O];exact gM _);have a3:Hh (∀j,j<tl.length->xM (tl.take (j+1))=xM (tl.take j)+szB (tl.getD j qA)):=ay λj O=>by
  unfold xM;rw[tA,gE O,mA,List.sum_append,gD,gE O];simp
 have a4:Hh (xM (tl.take tl.length)=xM tl):=ay (by rw[tL]);obtain⟨n,hn⟩:=Ex tl.length;rw[<-hn]at hl HC HR a3 a4 ⊢;clear hn hc hs;by_cases b0:left<n
 ·have q1:(left:Int)-(n:Int)<0:=Oo;go_enter Tryz.func4,Tryz.ntmps4;go_wp2_with fail;go_ret;exact⟨_,rfl,λh=>absurd h Oo,bJ _ _⟩
 have q1:¬((left:Int)-(n:Int)<0):=Oo;go_enter Tryz.func4,Tryz.ntmps4;go_wp2_with fail;go_loopw [1,5] (λu t wr=>∃(j L:Nat),j<=n/\t=ai j/\u=ai (L:Int)/\L+n<=left/\Hh (L+n+xM (tl.take j)=left/\Bl w wr)) (λ_ t _=>n-(intOf t).toNat);exact⟨0,left-n,nZ _,rfl,congrArg ai Oo,Oo,ay ⟨by show left-n+n+0=left;omega,bJ _ _⟩⟩;obtain⟨j,L,b1,rfl,rfl,b7,K⟩:=hrel;by_cases M:j<n
 ·have i1:(j:Int)<(n:Int):=Oo;obtain⟨b,V,ea,v0,v1,v2,c0,c1,c2,hI⟩:=HC.o wr K.o.2 j M;subst ea;have HF:=ay (HR.o j M);have a8:=ay (a3.o j M);have KZ:=ay (Ui wr v0 v1 v2 _ _ _ (L:Int) hI HF.o.vs HF.o.rows HF.o.ws Oo Oo);have a5:Hh ((L<szB (tl.getD j qA)->szT (tl.getD j qA).vs (tl.getD j qA).rows (tl.getD j qA).ws (L:Int)=-1)/\(¬L<szB (tl.getD j qA)->szT (tl.getD j qA).vs (tl.getD j qA).rows (tl.getD j qA).ws (L:Int)=((L-szB (tl.getD j qA):Nat):Int))):=ay ⟨λh=>by
   unfold szB at h;unfold szT;rw[if_pos Oo],λh=>by
   unfold szB at h ⊢;unfold szT;rw[if_neg Oo];omega⟩
  obtain⟨a0,k0,e0,-⟩:=hI.vs;obtain⟨a1,k1,e1,-⟩:=hI.rows;obtain⟨a2,k2,e2,-⟩:=hI.ws;subst e0 e1 e2;clear hI HC HF;generalize szT (tl.getD j qA).vs (tl.getD j qA).rows (tl.getD j qA).ws (L:Int)=z at *;generalize szB (tl.getD j qA)=sb at *;generalize (tl.getD j qA).rows.length=nr at *;generalize (tl.getD j qA).vs.length=n0 at *;generalize (tl.getD j qA).ws.length=n2 at *;by_cases hb:L<sb
  ·have hz:=a5.o.1 hb;subst hz;go_wp2_with (first|(go_at_call 15;refine KZ.o.mono ?_;rintro e w2 ⟨rfl,I⟩)|fail);go_ret;exact⟨_,rfl,λh=>absurd h Dd,bt K.o.2 I⟩
  have hz:=a5.o.2 hb;obtain⟨U,a6⟩:=Ex (L-sb);rw[<-a6]at hz;subst hz;have q2:¬((U:Int)<0):=Oo;go_wp2_with (first|(go_at_call 15;refine KZ.o.mono ?_;rintro e w2 ⟨rfl,I⟩)|fail);have HN:Hh (U+n+xM (tl.take (j+1))=left/\Bl w w2):=ay ⟨by have h1:=a8.o;have h2:=K.o.1;omega,bt K.o.2 I⟩;have a9:U+n<=left:=Oo;clear I KZ K;go_roundw;exact⟨j+1,U,Oo,Gg,by rw[a6],a9,HN⟩;exact Im
 obtain rfl:j=n:=Oo;have i1:¬((j:Int)<(j:Int)):=Oo;have HE:Hh (j+xM tl<=left):=ay (by have h1:=K.o.1;rw[a4.o]at h1;omega);go_wp2_with fail;go_ret;exact⟨_,rfl,λ_=>⟨HE.o,Oo⟩,K.o.2⟩
theorem Tryz.infoSd:(Tryz.prog.info? 123).map (λi=>(i.zero,i.size,i.bytes))=some (some (.agg #[sn,sn]),2,48):=Kl
theorem qBw(w:World)(x y:Value)(t:TypeId):∀j u,[x,y][j]?=some u->(w.alloc (.cells #[x,y] t)).cell? (((az w.1.size 0):Addr).add j)=some u:=by
 intro j u I;match j,I with
 |0,I=>simp at I;subst I;simp[Addr.add]
 |1,I=>simp at I;subst I;simp[Addr.add]
theorem qGb{W0:World}{v0 v1:Value}{s:SdM}(M:W.ownsRow B 3 1 v0 s.vars.length (s.vars.map ai))(hb:Bl W0 W)(h1:RSx (λu=>∀k,u.ownBlock=some k->B<=k) W0 W v1 us s.rows)(hv:∀k,v1.ownBlock=some k->B<=k):ElS B W ⟨v0,v1,s⟩:=λW' I=>by
 refine⟨qS (qC M λg V=>I g (M.lt g V).1 (M.lt g V).2),?_⟩;obtain⟨⟨a,cap,rfl,hc,hq⟩,-,O⟩:=h1;refine⟨a,cap,rfl,?_⟩;rcases hq with hq|⟨b,o,rfl,hq⟩;exact Or.inl hq;refine Or.inr ⟨b,o,rfl,λj U=>?_⟩;obtain⟨⟨⟨a2,c2,e2,K⟩,h3⟩,h4⟩:=O j U;refine⟨us.getD j undef,?_,⟨a2,c2,e2,?_⟩,h3⟩;exact(bF (w:=W) (a:=(az b (o+j))) (I b (hv b rfl) (bL W _ (hq j U)))).trans (hq j U);rcases K with K|⟨b2,o2,rfl,K⟩;exact Or.inl K;refine Or.inr ⟨b2,o2,rfl,λi hi=>?_⟩;have h5:W.cell? (az b2 (o2+i))=some (ai (s.rows.getD j []|>.getD i 0)):=(hb.cell (p:=(az b2 (o2+i))) (bL W0 _ (K i hi))).trans (K i hi);exact(bF (w:=W) (a:=(az b2 (o2+i))) (I b2 (h4 b2 (by rw[e2];rfl)) (bL W _ h5))).trans h5
theorem RQ.rsx(h:RQ W B v us ls):RSx (λu=>∀k,u.ownBlock=some k->B<=k) W W v us ls:=
 ⟨h.rs.sl,h.rs.len,λi hi=>⟨h.rs.each i hi,λk I=>((h.each i hi).lt k I).1⟩⟩
theorem UN(w:World)(vt vo:Value)(tl:List TbV)(o:LI)(h:ITs w vt tl)(ho:IS w vo o)(hl:tl.length<=1000)(k9:o.length<=1000)(i3:∀t∈tl,TvJ t):
 Cl 64 #[vt,vo] w λe w'=>∃v,e=.returned v/\ISds w' v (tl.map (sdT o))/\Bl w w':=by
 obtain⟨iS,V,l1,l3,l4⟩:=info_parts Tryz.infoIS;obtain⟨iD,hd,l5,l6,l7⟩:=info_parts Tryz.infoSd;obtain⟨l8,ct,rfl,hc⟩:=h;have HO:=ay ho;obtain⟨ao,co,rfl,-⟩:=ho;have b7:Hh (∀j,j<tl.length->TvJ (tl.getD j qA)):=ay λj V=>i3 _ (by rw[gD,gE V];exact gM _);have b8:Hh (∀j,j<tl.length->tl.take (j+1)=tl.take j++[tl.getD j qA]):=ay λj V=>by
  rw[tA,gE V,gD,gE V];rfl
 have e8:Hh (tl.take tl.length=tl):=ay (tL ..);have e9:Hh (∀j,j<=tl.length->(tl.take j).length=j):=ay λj V=>by rw[bW];omega
 have HC:Hh (∀W,Bl w W->∀j,j<tl.length->∃b oo,l8=some (az b oo)/\TabAt W b (oo+j*3) (tl.getD j qA)):=ay λW hW j V=>by
  rcases hc with h0|⟨b,oo,rfl,h⟩;omega;exact⟨b,oo,rfl,(h j V).below hW⟩
 obtain⟨n,hn⟩:=Ex tl.length;rw[<-hn]at hl b7 b8 e8 e9 HC ⊢;clear hn hc i3;obtain⟨no,b9⟩:=Ex o.length;have i4:=ay b9;rw[<-b9]at k9 ⊢;rw[<-b9]at HO;clear b9;obtain⟨W1,f7⟩:=Ex (w.alloc (.cells #[] 123));have f8:Hh (Bl w W1/\SDs W1 w.1.size (.slice (some (az w.1.size 0)) 0 0) []):=ay (by
  rw[f7];exact⟨aK,oM w #[] 0 (nR _) Dd rfl,λr hr=>by cases hr⟩)
 go_enter Tryz.func64,Tryz.ntmps64;go_upto_region 2 with fail;rw[<-f7];clear f7;go_wp2_with fail;go_loopw [5,15] (λu t wr=>∃(j:Nat) (vs:Value),j<=n/\t=ai j/\vs=u/\Hh (∃sl:List SdR,sl.map SdR.s=(tl.take j).map (sdT o)/\Bl w wr/\SDs wr w.1.size vs sl)) (λ_ t _=>n-(intOf t).toNat);exact⟨0,_,nZ _,rfl,rfl,ay ⟨[],rfl,f8.o.1,f8.o.2⟩⟩;clear f8;obtain⟨j,vs,l9,rfl,rfl,HT⟩:=hrel;obtain⟨sl,i5,hB,hS⟩:=HT.o;have c7:=ay i5;have HB:=ay hB;have HS:=ay hS;clear HT i5 hB hS;by_cases f9:j<n
 ·have i1:(j:Int)<(n:Int):=Oo;obtain⟨b,oo,ea,v0,v1,v2,c0,c1,c2,hI⟩:=HC.o wr HB.o j f9;subst ea;have a3:sl.length=j:=by have:=congrArg List.length c7.o;rw[lM,lM,e9.o j l9]at this;exact this
  have m0:=ay (b8.o j f9);have HJ:=ay (b7.o j f9);generalize tl.getD j qA=tb at *;obtain⟨W2,c8⟩:=Ex (wr.alloc (.cells #[v0,v1,v2] 61));have c9:Bl wr W2:=by rw[c8];exact(bJ _ _).alloc (nR _) _
  have g4:Hh (TX W2 wr.1.size v0 v1 v2):=ay (by rw[c8];exact TX.made _ _ _ _);have g5:=ay (hI.below c9);have g7:=ay c9;obtain⟨a0,k0,e0,-⟩:=hI.vs;obtain⟨a1,k1,e1,-⟩:=hI.rows;obtain⟨a2,k2,e2,-⟩:=hI.ws;subst e0 e1 e2;have g9:=ay (Q9 W2 (.slice ao no co) _ o tb.vs (HO.o.below (bt HB.o c9)) (by have:=i4.o;omega) g5.o.vs (by have:=HJ.o.vs;omega));have d0:=g4.o.c0;have m1:=HJ.o.n;have n7:=HJ.o.vs;have i6:Hh ((shr o tb.vs).length<=no):=ay (by rw[i4.o];exact vE _ _);obtain⟨I,h4⟩:=Ex (shr o tb.vs);have m2:=ay h4;rw[<-h4]at g9 i6;have n6:=i6.o;clear h4 c9 hI HC b7 b8;go_upto_region 5 with fail;rw[<-c8];clear c8 c0 c1 c2;go_wp2_with fail;refine g9.o.mono ?_;rintro e w3 ⟨g3,c3,rfl,i7,d3⟩;have i8:=ay (bt g7.o d3);have a4:=ay (g4.o.below d3);have h5:=ay (g5.o.below d3);have h6:=ay (qF i7 g7.o.size);clear i7 d3 g9 d0 g4 g5 g7;obtain⟨W4,h7⟩:=Ex (w3.alloc (.cells #[] 24));have d4:Hh (Bl w3 W4/\RQ W4 w3.1.size (.slice (some (az w3.1.size 0)) 0 0) [] []):=ay (by
   rw[h7];exact⟨aK,oM w3 #[] 0 (nR _) Dd rfl,rfl,λi hi=>by simp at hi,λi j _ V=>by simp at V⟩)
  have KV:Hh (∀W u i,Bl w3 W->i<tb.rows.length->IS W u (tb.rows.getD i [])->Cl 63 #[.agg #[.slice a0 tb.vs.length k0,.slice a1 tb.rows.length k1,.slice a2 tb.ws.length k2],u,.slice (some (az g3 0)) I.length c3] W λe w'=>∃v,e=.returned v/\w'.ownsRow W.1.size 3 1 v (qI tb.vs I (tb.rows.getD i [])).length ((qI tb.vs I (tb.rows.getD i [])).map ai)/\Bl W w'):=ay λW u i hW hi hu=>
   kL W _ _ _ u _ tb.vs (tb.rows.getD i []) I tb.rows.length tb.ws.length ⟨_,_,rfl⟩ ⟨_,_,rfl⟩ (h5.o.below hW).vs hu (qS (qB h6.o hW)) Oo (HJ.o.len _ (by rw[gD,gE hi];exact gM _)) Oo
  have HP:Hh (∀i,i<tb.rows.length->(tb.rows.take (i+1)).map (qI tb.vs I)=(tb.rows.take i).map (qI tb.vs I)++[qI tb.vs I (tb.rows.getD i [])]):=ay λi hi=>by
   rw[tA,gE hi,gD,gE hi,mA];rfl
  have d5:Hh (∀i,i<=tb.rows.length->((tb.rows.take i).map (qI tb.vs I)).length=i):=ay λi hi=>by rw[lM,bW];omega
  have h8:Hh ((tb.rows.take tb.rows.length).map (qI tb.vs I)=tb.rows.map (qI tb.vs I)):=ay (by rw[tL]);have h9:Hh (∀W,Bl w3 W->∀i,i<tb.rows.length->∃(b o:Nat) (u:Value),a1=some (az b o)/\W.cell? (az b (o+i))=some u/\IS W u (tb.rows.getD i [])):=ay λW hW i hi=>by
   obtain⟨a',c',e,hh⟩:=(h5.o.below hW).rows;simp only[Value.slice.injEq]at e;obtain⟨rfl,-,-⟩:=e;rcases hh with h0|⟨b,o,rfl,hq⟩;omega;obtain⟨u,h1,h2⟩:=hq i hi;exact⟨b,o,u,rfl,h1,h2⟩
  have HM:Hh (∀r∈tb.rows.map (qI tb.vs I),r.length<=1099511627776):=ay λr hr=>by
   obtain⟨q,-,rfl⟩:=List.mem_map.1 hr;rw[yT];omega
  obtain⟨nr,e3⟩:=Ex tb.rows.length;rw[<-e3]at KV HP d5 h8 h9 m1 a4 ⊢;clear e3 h5;generalize tb.vs.length=l0 at *;generalize tb.ws.length=l2 at *;have d1:=a4.o.c1;go_upto_region 7 with fail;rw[<-h7];clear h7;have d1:=(a4.o.below d4.o.1).c1;generalize wr=wo at *;go_wp2_with fail;clear d1;go_loopw [9,27] (λu t wr=>∃(i:Nat) (vr:Value),i<=nr/\t=ai i/\vr=u/\Hh (∃uo,Bl w3 wr/\RQ wr w3.1.size vr uo ((tb.rows.take i).map (qI tb.vs I)))) (λ_ t _=>nr-(intOf t).toNat);exact⟨0,_,nZ _,rfl,rfl,ay ⟨[],d4.o.1,d4.o.2⟩⟩;clear d4;obtain⟨i,vr,m3,rfl,rfl,HT⟩:=hrel;obtain⟨uo,hB,hQ⟩:=HT.o;have K:=ay hB;have HQ:=ay hQ;clear HT hB hQ;by_cases a6:i<nr
  ·have i2:(i:Int)<(nr:Int):=Oo;obtain⟨b5,o5,u5,ea,e5,i9⟩:=h9.o wr K.o i a6;subst ea;have j0:=ay (KV.o wr u5 i K.o a6 i9);have m4:=ay (HP.o i a6);have d6:=d5.o i m3;have d7:=ay (a4.o.below K.o);have d0:=d7.o.c0;have d1:=d7.o.c1;have d2:=d7.o.c2;obtain⟨au,cu,rfl,-⟩:=i9;generalize (tb.rows.getD i []).length=lr at *;generalize qI tb.vs I (tb.rows.getD i [])=pr at *;go_wp2_with fail;refine j0.o.mono ?_;rintro e w5 ⟨v5,rfl,d8,d9⟩;have j1:=ay (HQ.o.below d9);have m5:=ay (bt K.o d9);have a8:w3.1.size<=wr.1.size:=K.o.size;have m6:=ay (qF d8 a8);have m7:Hh (∀q,q<((tb.rows.take i).map (qI tb.vs I)).length->∀g,(uo.getD q undef).ownBlock=some g->v5.ownBlock≠some g):=ay λq hq g h1 h2=>by
    have a1:=((HQ.o.each q hq).lt g h1).2;have a2:=(d8.lt g h2).1;omega
   have m8:w3.1.size<=w5.1.size:=bM a8 d9.size;obtain⟨a5,k5,m9⟩:=qg d8;subst m9;clear d8 d9 j0 e5 K d0 d1 d2 d7 a8;have j2:w5.ownsRow w3.1.size 24 1 vr i uo:=by have:=j1.o.own;rw[d6]at this;exact this
   have j3:=ay j2;clear j2;go_wp2_with (first|(at_builtin;refine wpList_append_lies _ rfl _ _ 23 rfl w3.1.size 24 iS sn 1 24 Tryz.underlying23 V l1 l3 l4 rfl Dd vr _ uo rfl (j3.o.alloc _) (az _ 0) 1 1 [.slice a5 pr.length k5] rfl rfl (qH _ _ _) (λu hu=>by simp at hu;subst hu;rfl) Dd Um Oo Sy _ rfl ?_;intro g6 n1 w6 a9 M j4 j5)|fail);have HN:Hh (∃n2,Bl w3 w6/\RQ w6 w3.1.size (.slice (some (az g6 0)) (i+1) n1) n2 ((tb.rows.take (i+1)).map (qI tb.vs I))):=ay ⟨_,(m5.o.alloc m8 _).grown M Sy (λq hq=>(j3.o.lt q hq).1),by rw[m4.o];exact j1.o.step m6.o m7.o (by rw[d6];exact a9) M⟩;clear a9 M j4 j5;go_roundw;exact⟨i+1,_,Oo,Gg,rfl,HN⟩;exact Im
  obtain rfl:i=nr:=Oo;have i2:¬((i:Int)<(i:Int)):=Oo;have d6:=d5.o i (nR _);rw[h8.o]at HQ d6;clear h9 KV HP d5 h8 a4;have KS:=ay (uj (λu=>∀k,u.ownBlock=some k->w3.1.size<=k) wr _ wr vr uo (tb.rows.map (qI tb.vs I)) (nR _) (bJ _ _) HQ.o.rsx Oo HM.o);have n8:Hh ((srt (tb.rows.map (qI tb.vs I))).length<=10000):=ay (by have:=xT _ (tb.rows.map (qI tb.vs I)) (nR _);omega);have HE:Hh (∀w7 v7 b0,RSx (λu=>∀k,u.ownBlock=some k->w3.1.size<=k) wr w7 v7 b0 (srt (tb.rows.map (qI tb.vs I)))->qEw wr vr v7->Bl wr w7->ElS wo.1.size w7 ⟨.slice (some (az g3 0)) I.length c3,v7,sdT o tb⟩/\Bl wo w7):=ay λw7 v7 b0 h1 h2 h3=>by
   have n3:sdT o tb=⟨I,srt (tb.rows.map (qI tb.vs I))⟩:=by unfold sdT;rw[<-m2.o]
   rw[n3];have hle:=i8.o.size;refine⟨qGb (qB (qB h6.o K.o) h3) h3 (us:=b0) ⟨h1.sl,h1.len,λi hi=>⟨(h1.each i hi).1,λk hk=>bM hle ((h1.each i hi).2 k hk)⟩⟩ (λk hk=>?_),bt i8.o (bt K.o h3)⟩;rcases h2 with h2|h2;rw[h2]at hk;exact bM hle (HQ.o.own.lt k hk).1;exact bM hle (bM K.o.size (h2 k hk))
  generalize hR:srt (tb.rows.map (qI tb.vs I))=R at *;clear hR HM HQ K h6;go_wp2_with fail;refine KS.o.mono ?_;rintro e w7 ⟨v7,b0,rfl,e4,j6,k3⟩;have U:=ay (HE.o w7 v7 b0 e4 j6 k3);obtain⟨⟨a7,k7,e7,-,-⟩,-,-⟩:=e4;subst e7;have n4:w.1.size<=w7.1.size:=bM HB.o.size U.o.2.size;have k4:w7.ownsRow w.1.size 123 2 vs j (sl.flatMap scs):=by have:=(HS.o.below U.o.2).own;rw[a3]at this;exact this
  have i0:=ay k4;clear k3 KS HE j6 k4;generalize R.length=lR at *;generalize I.length=lsv at *;go_wp2_with (first|(at_builtin;refine wpList_append_lies _ rfl _ _ 98 rfl w.1.size 123 iD (.agg #[sn,sn]) 2 48 Tryz.underlying98 hd l5 l6 l7 rfl Dd vs _ _ rfl (i0.o.alloc _) (az _ 0) 1 1 [.slice (some (az g3 0)) lsv c3,.slice a7 lR k7] rfl rfl (qBw _ _ _ _) (λu hu=>by simp at hu;rcases hu with rfl|rfl <;> rfl) Dd Um Oo Sy _ rfl ?_;intro g8 n5 w8 b1 O e6 k6)|fail);have HN:Hh (∃k8:List SdR,k8.map SdR.s=(tl.take (j+1)).map (sdT o)/\Bl w w8/\SDs w8 w.1.size (.slice (some (az g8 0)) (j+1) n5) k8):=ay ⟨sl++[⟨.slice (some (az g3 0)) lsv c3,.slice a7 lR k7,sdT o tb⟩],by rw[m0.o,mA,mA,c7.o];rfl,((bt HB.o U.o.2).alloc n4 _).grown O Sy (λq hq=>(i0.o.lt q hq).1),by
   have:=HS.o.push U.o.2 U.o.1 O (by rw[a3];exact b1) e6;rw[a3]at this;exact this⟩
  clear b1 O e6 k6 U i0;go_roundw;exact⟨j+1,_,Oo,Gg,rfl,HN⟩;exact Im
 obtain rfl:j=n:=Oo;have i1:¬((j:Int)<(j:Int)):=Oo;have HF:Hh (ISds wr vs (tl.map (sdT o))/\Bl w wr):=ay ⟨by have:=HS.o.isds;rw[c7.o,e8.o]at this;exact this,HB.o⟩;clear HS HB c7 HC b7 b8 e8 e9;go_wp2_with fail;go_ret;exact⟨_,rfl,HF.o.1,HF.o.2⟩
def uD(tl:List TbV)(o:LI):List Sd:=(tl.map (sdT o)).map (sdO o)
def nxJ(tl:List TbV)(o:LI):LI->LI:=xf (uD tl o)
theorem kE(tl:List TbV)(o:LI):∀s∈uD tl o,s.Ok:=λs hs=>by
 obtain⟨m,I,rfl⟩:=List.mem_map.1 hs;obtain⟨t,-,rfl⟩:=List.mem_map.1 I;exact qCy (vO o t)
def xC(tl:List TbV):Bool:=tl.any λt=>decide (t.rows.length=0)
def lvJ(tl:List TbV)(o:LI)(j:Nat):LL:=if xC tl then [] else yP (nxJ tl o) [] j
theorem qD7(tl:List TbV)(o:LI)(j:Nat):lvJ tl o (j+1)=(lvJ tl o j).flatMap λq=>(nxJ tl o q).map λv=>q++[v]:=by
 unfold lvJ;by_cases h:xC tl;rw[if_pos h,if_pos h];rfl;rw[if_neg h,if_neg h];rfl
def smJ(tl:List TbV)(o:LI)(j:Nat):Bool:=(List.range j).all λi=>decide ((lvJ tl o (i+1)).length<=10000)
def viJ(tl:List TbV)(o:LI)(j:Nat):Nat:=((List.range j).map λi=>(lvJ tl o (i+1)).length).sum
theorem XH(tl:List TbV)(o:LI)(j:Nat):smJ tl o (j+1)=(smJ tl o j&&decide ((lvJ tl o (j+1)).length<=10000)):=by
 unfold smJ;rw[List.range_succ,List.all_append];simp
theorem Ji(tl:List TbV)(o:LI)(j:Nat):viJ tl o (j+1)=viJ tl o j+(lvJ tl o (j+1)).length:=by
 unfold viJ;rw[List.range_succ,mA,List.sum_append];simp
theorem Vm(I:j<k)(h:¬(lvJ tl o (j+1)).length<=10000):smJ tl o k=false:=by
 unfold smJ;rw[List.all_eq_false];exact⟨j,List.mem_range.2 I,by simpa using h⟩
theorem Jj{tl:List TbV}{o:LI}:∀{j:Nat},smJ tl o j=true->viJ tl o j<=j*10000
 |0,_=>nR _
 |j+1,h=>by
  rw[XH,bV,dE]at h;rw[Ji];have:=Jj h.1;omega
theorem Jk(tl:List TbV)(o:LI):(lvJ tl o 0).length<=1:=by
 unfold lvJ;by_cases h:xC tl;rw[if_pos h];exact nZ _;rw[if_neg h];exact nR _
theorem qCz:∀{j:Nat},smJ tl o j=true->(lvJ tl o j).length<=10000
 |0,_=>bM (Jk tl o) Dd
 |j+1,h=>by
  rw[XH,bV,dE]at h;exact h.2
theorem uz:∀q∈lvJ tl o j,q.length=j:=λq hq=>by
 unfold lvJ at hq;by_cases h:xC tl;rw[if_pos h]at hq;cases hq
 rw[if_neg h]at hq;have:=kl _ _ j q hq;simpa using this
theorem Jl(tl:List TbV)(o:LI):Hld (uD tl o) []:=λs _=>Or.inl (by unfold prt;rfl)
theorem qFL:∀q∈lvJ tl o j,Hld (uD tl o) q:=λq hq=>by
 unfold lvJ at hq;by_cases h:xC tl;rw[if_pos h]at hq;cases hq
 rw[if_neg h]at hq;exact XG (kE tl o) (Jl tl o) j q hq
theorem qGY(R:LL)(q:LI)(k n:Nat):(VA R q k n).length<=n:=by
 unfold VA;rw[lM];exact Kr _ _
theorem qC0(m:Nat)(R:LL)(q:LI):(nN m R q).length<=R.length:=by
 unfold nN;by_cases h:q.length<m;rw[if_pos h];have:=qGY R q (kA R q) (nA R q);have I:=(X8 (R:=R) (q:=q)).le;omega;rw[if_neg h];exact nZ _
theorem km(o:LI)(t:TbV):(sdT o t).rows.length<=t.rows.length:=by
 have:=xT _ (t.rows.map (qI t.vs (shr o t.vs))) (nR _);rw[lM]at this;exact this
theorem qFM(I:∀t∈tl,TvJ t)(p:LI):(nxJ tl o p).length<=10000:=by
 unfold nxJ xf;cases hf:(uD tl o).find? (λs=>s.H p.length)with
 |none=>exact nZ _
 |some f=>
  have M:=List.mem_of_find?_eq_some hf;unfold uD at M;obtain⟨m,K,rfl⟩:=List.mem_map.1 M;obtain⟨t,O,rfl⟩:=List.mem_map.1 K;show(vN (uD tl o) (sdO o (sdT o t)) p).length<=10000;unfold vN;refine bM (List.length_filter_le _ _) (bM (qC0 _ _ _) (bM (km o t) (I t O).n))
theorem uE{vs:LI}(hi:i<o.length):qO o (shr o vs) i=decide (o.getD i 0∈vs):=by
 unfold qO;by_cases h:o.getD i 0∈vs;rw[decide_eq_true h];refine decide_eq_true (List.mem_filter.2 ⟨?_,decide_eq_true h⟩);rw[gD,gE hi];exact gM hi;rw[decide_eq_false h];exact decide_eq_false λI=>h (vC I)
theorem qFN(H:Nat->Bool)(p:LI):(prt H p).length=((List.range p.length).filter H).length:=by
 unfold prt;rw[lM]
theorem Qp{l:LI}{q:Int->Bool}:∀k,k<=l.length->((l.take k).filter q).length=((List.range k).filter λi=>q (l.getD i 0)).length
 |0,_=>rfl
 |k+1,h=>by
  have I:=Qp (l:=l) (q:=q) k Oo;rw[List.range_succ,List.filter_append,lA,<-I,qy (show k<l.length by omega),List.filter_append,lA];congr 1;by_cases e:q (l.getD k 0);simp only[List.filter_cons,e,if_true,List.filter_nil,List.length_cons,List.length_nil];simp only[List.filter_cons,e,if_false,List.filter_nil,List.length_nil,Bool.false_eq_true]
theorem qFO{vs:LI}(I:p.length<=o.length):(prt (qO o (shr o vs)) p).length=((o.take p.length).filter λx=>decide (x∈vs)).length:=by
 rw[qFN,Qp p.length I];congr 1;refine List.filter_congr λi hi=>?_;exact uE (by have:=List.mem_range.1 hi;omega)
theorem qGZ{vs:LI}(I:p.length<o.length):(prt (qO o (shr o vs)) p).length<=(shr o vs).length/\(qO o (shr o vs) p.length=true->(prt (qO o (shr o vs)) p).length<(shr o vs).length):=by
 have e:o.take (p.length+1)++o.drop (p.length+1)=o:=tD _ _;have hs:(shr o vs).length=((o.take p.length).filter λx=>decide (x∈vs)).length+(if o.getD p.length 0∈vs then 1 else 0)+((o.drop (p.length+1)).filter λx=>decide (x∈vs)).length:=by
  unfold shr;conv=>lhs;rw[<-e]
  rw[List.filter_append,lA,qy I,List.filter_append,lA];congr 1;congr 1;by_cases h:o.getD p.length 0∈vs;rw[if_pos h];simp only[List.filter_cons,decide_eq_true h,if_true,List.filter_nil,List.length_cons,List.length_nil];rw[if_neg h];simp only[List.filter_cons,decide_eq_false h,List.filter_nil,List.length_nil,Bool.false_eq_true,if_false]
 rw[qFO Oo,hs];refine⟨Oo,λh=>?_⟩;rw[uE I,dE]at h;rw[if_pos h];omega
def Qq(tl:List TbV)(o:LI):Prop:=∀i,i<o.length->∃t∈tl,o.getD i 0∈t.vs
theorem qG4(h:Qq tl o)(hi:i<o.length):ze o (tl.map (sdT o)) i<(tl.map (sdT o)).length:=by
 obtain⟨t,I,K⟩:=h i hi;exact qFR ⟨sdT o t,List.mem_map_of_mem I,by show qO o (shr o t.vs) i=true;rw[uE hi];exact decide_eq_true K⟩
def qj(tl:List TbV)(i:Nat):Bool:=tl.any λt=>decide ((i:Int)∈t.vs)
def vrJ(tl:List TbV):LI:=plc (qj tl) 6
theorem ZT(tl:List TbV):(vrJ tl).length<=6:=xp _ _
theorem X9(p:Nat->Bool)(k:Nat):(plc p k).Pairwise (·< ·):=by
 unfold plc;refine List.pairwise_map.2 ((List.pairwise_lt_range.filter _).imp λ{a b} h=>?_);show(a:Int)<(b:Int);omega
theorem qC1(tl:List TbV):(vrJ tl).Nodup:=(X9 _ _).imp λ{a b} h=>Oo
theorem yX{p:Nat->Bool}{x:Int}:x∈plc p k↔∃i,i<k/\p i=true/\(i:Int)=x:=by
 unfold plc;rw[List.mem_map];constructor;rintro⟨i,hi,rfl⟩;obtain⟨I,K⟩:=List.mem_filter.1 hi;exact⟨i,List.mem_range.1 I,K,rfl⟩;rintro⟨i,I,K,rfl⟩;exact⟨i,List.mem_filter.2 ⟨List.mem_range.2 I,K⟩,rfl⟩
theorem qA6:∀{vr o:LI},vr.Nodup->(∀x∈vr,x∈o)->o.length=vr.length->vr.Perm o
 |[],o,_,_,hl=>by
  have:o=[]:=List.length_eq_zero_iff.1 hl;rw[this]
 |a::r,o,hn,hs,hl=>by
  rw[List.nodup_cons]at hn;have I:=hs a List.mem_cons_self;have M:=List.perm_cons_erase I;have O:r.Perm (o.erase a):=qA6 hn.2 (λx K=>(List.mem_erase_of_ne (λe=>hn.1 (by rw[<-e];exact K))).2 (hs x (mC _ K))) (by rw[List.length_erase_of_mem I,hl];simp);exact(O.cons a).trans M.symm
def uF(tl:List TbV)(o:LI):Bool:=decide (o.length=(vrJ tl).length)&&Qz (vrJ tl) o
theorem xZ:uF tl o=true↔(vrJ tl).Perm o:=by
 unfold uF;rw[bV,dE];constructor;rintro⟨M,I⟩;refine qA6 (qC1 tl) (λx K=>?_) M;unfold Qz at I;rw[aT]at I;exact of_decide_eq_true (I x K);intro h;refine⟨h.length_eq.symm,?_⟩;unfold Qz;rw[aT];exact λx K=>decide_eq_true (h.subset K)
theorem ko(h:uF tl o=true):Qq tl o:=λi hi=>by
 have K:o.getD i 0∈vrJ tl:=(xZ.1 h).symm.subset (by rw[gD,gE hi];exact gM hi);obtain⟨k,-,I,M⟩:=yX.1 K;unfold qj at I;obtain⟨t,O,U⟩:=List.any_eq_true.1 I;exact⟨t,O,by rw[<-M];exact of_decide_eq_true U⟩
def qU(t:TbV):Bool:=ql t.vs t.rows t.ws
theorem kF{t:TbV}(h:qU t=true):TvJ t:=by
 obtain⟨I,K,M⟩:=qZ h;exact⟨zK I,K,M⟩
def okJ(tl:List TbV)(o:LI):Bool:=decide (tl.length<=8)&&tl.all qU&&uF tl o
def qu(tl:List TbV)(o:LI):LL:=if okJ tl o&&smJ tl o o.length then lvJ tl o o.length else []
def qw(tl:List TbV)(o:LI):Int:=if okJ tl o&&smJ tl o o.length then (viJ tl o o.length:Int) else -1
theorem qFP(h:okJ tl o=false):qu tl o=[]/\qw tl o=-1:=by
 unfold qu qw;rw[h];exact⟨rfl,rfl⟩
theorem xw(h:okJ tl o=true):qu tl o=(if smJ tl o o.length then lvJ tl o o.length else [])/\qw tl o=(if smJ tl o o.length then (viJ tl o o.length:Int) else -1):=by
 unfold qu qw;rw[h,Bool.true_and];exact⟨rfl,rfl⟩
theorem qC2(I:j<tl.length)(i:Nat):qj (tl.take (j+1)) i=(qj (tl.take j) i||decide ((i:Int)∈(tl.getD j qA).vs)):=by
 unfold qj;rw[tA,gE I,List.any_append,gD,gE I];simp
theorem xx:(qu tl o).length<=10000/\∀r∈qu tl o,r.length<=6:=by
 unfold qu;by_cases h:okJ tl o&&smJ tl o o.length;rw[if_pos h];rw[bV]at h;have I:=h.1;unfold okJ at I;rw[bV]at I;have M:=(xZ.1 I.2).length_eq;have O:=ZT tl;exact⟨qCz h.2,λr K=>by rw[uz r K];omega⟩;rw[if_neg h];exact⟨Ss,λr K=>by cases K⟩
structure JMx(x:JX)(nxt:LI->LI)(no:Nat):Prop where
 mem:∀t,t<x.nT->∀q,x.D t q->∀y,y∈x.N t q↔x.D t (q++[y])
 asc:∀t,t<x.nT->∀q,x.D t q->(x.N t q).Pairwise (·< ·)
 len:∀t,t<x.nT->∀q,x.D t q->(x.N t q).length<=1000000
 lT:x.nT<=1000
 lo:no<=1000
 hl:x.hav.length=no
 hav:∀k,k<no->x.hav.getD k []=plc (λt=>x.H t k) x.nT
 some:∀k,k<no->∃t,t<x.nT/\x.H t k=true
 more:∀p,p.length<no->(∀t,t<x.nT->x.D t (prt (x.H t) p))->∀t,t<x.nT->x.H t p.length=true->0<(x.N t (prt (x.H t) p)).length
 nx:∀p,p.length<no->(∀t,t<x.nT->x.D t (prt (x.H t) p))->∀g,g<x.nT->x.H g p.length=true->nxt p=(x.N g (prt (x.H g) p)).filter λy=>(plc (λt=>x.H t p.length) x.nT).all λt=>decide (y∈x.N t.toNat (prt (x.H t.toNat) p))
def JX.Hd(x:JX)(p:LI):Prop:=∀t,t<x.nT->x.D t (prt (x.H t) p)
def JX.tk(x:JX)(p:LI)(j:Nat):Nat:=((plc (λt=>x.H t p.length) x.nT).getD j 0).toNat
def JX.nh(x:JX)(p:LI):Nat:=(plc (λt=>x.H t p.length) x.nT).length
def JX.nd(x:JX)(p:LI)(j:Nat):Nat:=x.f (x.tk p j) (prt (x.H (x.tk p j)) p)
def JX.vl(x:JX)(p:LI)(j:Nat):LI:=x.N (x.tk p j) (prt (x.H (x.tk p j)) p)
theorem JX.tk_ok(x:JX)(p:LI)(K:j<x.nh p):x.tk p j<x.nT/\x.H (x.tk p j) p.length=true/\(plc (λt=>x.H t p.length) x.nT).getD j 0=(x.tk p j:Int):=by
 have I:(plc (λt=>x.H t p.length) x.nT).getD j 0∈plc (λt=>x.H t p.length) x.nT:=xz K;unfold plc at I;obtain⟨i,hi,e⟩:=List.mem_map.1 I;obtain⟨M,O⟩:=List.mem_filter.1 hi;have U:x.tk p j=i:=by
  unfold JX.tk;unfold plc;rw[<-e];rfl
 rw[U];exact⟨List.mem_range.1 M,O,by unfold plc;exact e.symm⟩
theorem JX.tk_all(x:JX)(p:LI){t:Nat}(I:t<x.nT)(K:x.H t p.length=true):∃j,j<x.nh p/\x.tk p j=t:=by
 have M:(t:Int)∈plc (λt=>x.H t p.length) x.nT:=by
  unfold plc;exact List.mem_map.2 ⟨t,List.mem_filter.2 ⟨List.mem_range.2 I,K⟩,rfl⟩
 obtain⟨j,O,e⟩:=yV M;exact⟨j,O,by unfold JX.tk;rw[e];omega⟩
def JX.all(x:JX)(p:LI)(y:Int):Bool:=(List.range (x.nh p)).all λj=>decide (y∈x.vl p j)
theorem JX.all_eq(x:JX)(p:LI)(y:Int):((plc (λt=>x.H t p.length) x.nT).all λt=>decide (y∈x.N t.toNat (prt (x.H t.toNat) p)))=x.all p y:=by
 rw[Bool.eq_iff_iff,aT];unfold JX.all;rw[aT];constructor;intro h j I;exact h _ (xz (List.mem_range.1 I));intro h t K;obtain⟨j,I,e⟩:=yV K;have:=h j (List.mem_range.2 I);unfold JX.vl JX.tk at this;rw[e]at this;exact this
structure LG(x:JX)(B:Nat)(wr:World)(bB bH cu cc:Nat)(vp vb vt:Value)(p:LI)(q:Nat->Nat):Prop where
 dat:Dat x wr
 brn:Brn x x.n0 wr vp vb p
 bx:BrX wr bB vp vb
 lB:x.n0<=bB
 bh:wr.1[bH]?=some (.cells #[vt] 24 (0,0))
 lH:x.n0<=bH
 nr:¬RBk x wr bH
 hB:x.n0<=B
 cur:wr.ownsRow B 176 2 (.slice (some (az cu 0)) (x.nh p) cc) (x.nh p) (vL (x.nd p) q (x.nh p))
section
variable {x:JX} {B:Nat} {X Y:World} {bB bH cu cc:Nat} {vp vb vt:Value} {p:LI} {q:Nat->Nat}
theorem LG.below(h:LG x B X bB bH cu cc vp vb vt p q)(I:x.Ok)(hb:Bl X Y):LG x B Y bB bH cu cc vp vb vt p q:=by
 have M:=h.bx.lt;have K:KT x.n0 X Y:=KT.of_below hb (by have:=h.lB;omega);exact⟨h.dat.kt K I,h.brn.below hb,h.bx.below hb,h.lB,(hb.block _ (qW h.bh)).trans h.bh,h.lH,λO=>h.nr ((RBk.eq (K.bel.block _ I.r) _).1 O),h.hB,qB h.cur hb⟩
theorem LG.kp{S:Nat->Prop}(h:LG x B X bB bH cu cc vp vb vt p q)(K:x.Ok)(I:KpS x S X Y):LG x B Y bB bH cu cc vp vb vt p q:=by
 have hs:=I.sb K h.dat.ty;refine⟨h.dat.kp I K,h.brn.sb hs (nR _),(hs.same _ _ _ _ h.lB h.bx Dd Dd (Or.inl Dd)).trans h.bx,h.lB,(hs.same _ _ _ _ h.lH h.bh Dd Dd (Or.inr h.nr)).trans h.bh,h.lH,I.nr (qW h.bh) h.nr,h.hB,qC h.cur λg O=>?_⟩;obtain⟨cur,M⟩:=qN h.cur O;exact(I.same g _ M (Or.inl rfl) (KpS.not K h.dat.ty (bM h.hB (h.cur.lt g O).1) M (Or.inl Dd))).trans M.symm
theorem qDx(nd q:Nat->Nat)(n i v:Nat)(hi:i<n):(vL nd q n).set (i*2+1) (ai v)=vL nd (λj=>if j=i then v else q j) n:=by
 induction n with
 |zero=>omega
 |succ n ih=>
  rw[uT,uT];by_cases e:i<n;rw[List.set_append_left _ _ (by rw[yO];omega),ih e,if_neg Oo];obtain rfl:i=n:=Oo;rw[List.set_append_right _ _ (by rw[yO];omega),yO,if_pos rfl,show i*2+1-i*2=1 by omega];congr 1;unfold vL;simp only[List.flatMap];congr 1;refine List.map_congr_left λj I=>?_;rw[if_neg (by have:=List.mem_range.1 I;omega)]
theorem LG.seek(h:LG x B X bB bH cu cc vp vb vt p q)(O:x.Ok)(hi:i<x.nh p)(v:Nat):LG x B (X.setCell (az cu (i*2+1)) (ai v)) bB bH cu cc vp vb vt p (λj=>if j=i then v else q j)/\KT B X (X.setCell (az cu (i*2+1)) (ai v)):=by
 obtain⟨cur,U⟩:=qN h.cur (g:=cu) rfl;have K:=(h.cur.lt cu rfl).1;have I:KT B X (X.setCell (az cu (i*2+1)) (ai v)):=KT.set _ K U (Or.inl rfl);have M:=I.mono h.hB;have hs:=M.sb (x:=x);refine⟨⟨h.dat.kt M O,h.brn.sb hs (nR _),(hs.same _ _ _ _ h.lB h.bx Dd Dd (Or.inl Dd)).trans h.bx,h.lB,(hs.same _ _ _ _ h.lH h.bh Dd Dd (Or.inr h.nr)).trans h.bh,h.lH,λV=>h.nr ((RBk.eq (M.bel.block _ O.r) _).1 V),h.hB,?_⟩,I⟩;have:=(h.cur.stored (i*2+1) (ai v)).1;rw[qDx _ _ _ _ _ hi]at this;exact this
theorem LG.cq(h:LG x B X bB bH cu cc vp vb vt p q){nxt:LI->LI}{no:Nat}(hm:JMx x nxt no)(hp:p.length<no)(hd:x.Hd p)(hi:i<x.nh p):∃fb cap gb cb,Cq X cu (i*2) (x.nd p i) fb cap (.slice (some (az gb 0)) (x.vl p i).length cb) (x.vl p i) (q i)/\(x.vl p i).length<=cap/\
 ∀j,j<(x.vl p i).length->X.cell? (az gb j)=some (.pointer (some (az (x.f (x.tk p i) (prt (x.H (x.tk p i)) p++[(x.vl p i).getD j 0])) 0))):=by
 obtain⟨h1,h2,-⟩:=x.tk_ok p hi;have U:=h.dat.tr _ h1;have V:=hd _ h1;have h0:=hm.more p hp hd _ h1 h2;have K:=U.o0 _ V;have M:=U.o1 _ V;obtain⟨ga,ca,ea,-⟩:=xN K h0;obtain⟨gb,cb,eb,-⟩:=xN M h0;have a3:(x.vl p i).length<=ca:=by
  rcases K.2 with ⟨-,h2⟩|⟨g,cap,cur,e,-,-,hn,-⟩;exact absurd h2 Oo;rw[ea]at e;simp only[Value.slice.injEq]at e;have:(x.vl p i).length<=cap:=hn;omega
 obtain⟨g1,g2⟩:=JV (x.nd p) q (x.nh p) i hi;refine⟨ga,ca,gb,cb,⟨?_,?_,?_,?_,?_,λj O=>?_⟩,a3,λj O=>?_⟩;rw[h.cur.cellAt (i*2) Oo];exact g1;rw[h.cur.cellAt (i*2+1) Oo];exact g2;exact h.cur.frozenAt _;have:=U.c0 V;rw[ea]at this;exact this;have:=U.c1 V;rw[eb]at this;exact this;have I:j<(x.N (x.tk p i) (prt (x.H (x.tk p i)) p)).length:=O;obtain⟨g,c,e,h3⟩:=xN K O;rw[ea]at e;simp only[Value.slice.injEq,Option.some.injEq,Addr.mk.injEq]at e;rw[e.1.1,h3,bK,gE I];show _=some (ai ((x.N (x.tk p i) (prt (x.H (x.tk p i)) p)).getD j 0));rw[gD,gE I];rfl;have I:j<(x.N (x.tk p i) (prt (x.H (x.tk p i)) p)).length:=O;obtain⟨g,c,e,h3⟩:=xN M O;rw[eb]at e;simp only[Value.slice.injEq,Option.some.injEq,Addr.mk.injEq]at e;rw[e.1.1,h3,bK,gE I];show _=some (Value.pointer (some (az (x.f (x.tk p i) (prt (x.H (x.tk p i)) p++[(x.N (x.tk p i) (prt (x.H (x.tk p i)) p)).getD j 0])) 0)));rw[gD,gE I];rfl
end
def TrO(B:Nat)(W:World)(rows:LL)(c:Option Addr):Prop:=rows=[]/\c=none∨rows≠[]/\∃D N f g0 g1,c=some (az (f []) 0)/\TM rows D N/\TR W B D N N f g0 g1/\∀p,D p->(N p).length<=rows.length
theorem TR.move{D:LI->Prop}{N0 N1:LI->LI}{f:LI->Nat}{g0 g1:LI->Value}(h:TR W B D N0 N1 f g0 g1)(M:∀k,B<=k->k<W.1.size->W'.1[k]?=W.1[k]?):TR W' B D N0 N1 f g0 g1:=
 ⟨λp I=>(M _ (h.low p I) (h.lt I)).trans (h.blk p I),h.low,λp I=>qC (h.o0 p I) λg K=>M g ((h.o0 p I).lt g K).1 ((h.o0 p I).lt g K).2,λp I=>qC (h.o1 p I) λg K=>M g ((h.o1 p I).lt g K).1 ((h.o1 p I).lt g K).2,h.inj,h.a0,h.a1⟩
def ElT(B bx:Nat)(v:Value)(W:World)(rows:LL)(c:Option Addr):Prop:=∀W',(∀k,k<W.1.size->v.ownBlock≠some k->k≠bx->W'.1[k]?=W.1[k]?)->TrO B W' rows c
structure RtS(W:World)(B bx:Nat)(v:Value)(rl:List LL)(cs:List (Option Addr)):Prop where
 own:W.ownsRow B 111 1 v rl.length (cs.map Value.pointer)
 len:cs.length=rl.length
 el:∀t,t<rl.length->ElT B bx v W (rl.getD t []) (cs.getD t none)
theorem RtS.below{bx:Nat}{rl:List LL}{cs:List (Option Addr)}(h:RtS W B bx v rl cs)(hb:Bl W W'):RtS W' B bx v rl cs:=
 ⟨qB h.own hb,h.len,λt K X M=>h.el t K X λk I O U=>by rw[M k (bN I hb.size) O U];exact hb.block k I⟩
theorem RtS.push{wr w3:World}{bx g:Nat}{y:Value}{rl:List LL}{cs:List (Option Addr)}{rows:LL}{U:Option Addr}{o:Obj}(h:RtS wr B bx v rl cs)(hB:B<=wr.1.size)(b1:bx<wr.1.size)(hb:Bl wr W)(he:TrO wr.1.size W rows U)(hg:(W.alloc o).grownBy w3 v.ownBlock)
 (a3:w3.ownsRow B 111 1 (.slice (some (az g 0)) (rl.length+1) c) (rl.length+1) (cs.map Value.pointer++[.pointer U])) (M:v.ownBlock=some g∨g=(W.alloc o).1.size) (a5:g≠bx):
 RtS (w3.setCell (az bx 1) y) B bx (.slice (some (az g 0)) (rl.length+1) c) (rl++[rows]) (cs++[U]):=by
 have hs:=hb.size;have a6:=hg.size;rw[World.size_alloc]at a6 M;have a7:(w3.setCell (az bx 1) y).1.size=w3.1.size:=by simp[World.setCell]
 refine⟨?_,by simp[h.len],λt ht W' a8=>?_⟩
 ·rw[lA,lS,mA];refine qC a3 λk O=>bD _ _ _ _ λe=>?_;have:k=g:=by simpa[Value.ownBlock]using O.symm
  exact a5 (this.symm.trans e)
 have key:∀k,k<W.1.size->v.ownBlock≠some k->g≠k->k≠bx->W'.1[k]?=W.1[k]?:=λk O I K V=>by
  rw[a8 k (by rw[a7];omega) (λe=>K (by simpa[Value.ownBlock]using e)) V,bD _ _ _ _ (by exact V),hg.block k (by rw[World.size_alloc];omega) (λe=>I e.symm)];exact Below.heap_alloc _ _ _ O
 have a4:∀k,v.ownBlock=some k->k<wr.1.size:=λk O=>(h.own.lt k O).2;rw[lA,lS]at ht;by_cases e:t<rl.length
 ·have e1:(rl++[rows]).getD t []=rl.getD t []:=by rw[gD,aL e,<-gD]
  have e2:(cs++[U]).getD t none=cs.getD t none:=by rw[gD,aL (by rw[h.len];exact e),<-gD]
  rw[e1,e2];refine h.el t e W' λk O I V=>?_;rw[key k Oo I (λe=>?_) V];exact hb.block k O;subst e;rcases M with K|K;exact I K;omega
 have a9:t=rl.length:=Oo;subst a9;have e1:(rl++[rows]).getD rl.length []=rows:=by rw[gD,bQ (nR _),Nat.sub_self];rfl
 have e2:(cs++[U]).getD rl.length none=U:=by rw[gD,bQ (by rw[h.len];exact nR _),h.len,Nat.sub_self];rfl
 rw[e1,e2];rcases he with ⟨I,K⟩|⟨I,D,N,f,g0,g1,K,V,h4,h5⟩;exact Or.inl ⟨I,K⟩;refine Or.inr ⟨I,D,N,f,g0,g1,K,V,(h4.move λk b7 b0=>key k b0 (λe=>?_) (λe=>?_) Oo).base hB,h5⟩;have:=a4 k e;omega;subst e;rcases M with h6|h6;have:=a4 _ h6;omega;omega
def plO(vs:LI)(o:LI):LI:=(o.filter λv=>decide (v∈vs)).map λv=>(bsQ vs v:Int)
theorem qDo(vs o:LI)(v:Int):plO vs (o++[v])=plO vs o++(if v∈vs then [(bsQ vs v:Int)] else []):=by
 unfold plO;rw[List.filter_append,mA];congr 1;by_cases h:v∈vs;rw[if_pos h];simp[h];rw[if_neg h];simp[h]
theorem qFH{vs:LI}(K:vs.Pairwise (·< ·))(v:Int):bsF vs v=decide (v∈vs):=by
 unfold bsF;by_cases h:v∈vs;obtain⟨I,M⟩:=ZJ (uZ K) h;rw[decide_eq_true h,decide_eq_true I,decide_eq_true M];rfl;rw[decide_eq_false h];by_cases I:bsQ vs v<vs.length;rw[decide_eq_true I,decide_eq_false (qBS h I)];rfl;rw[decide_eq_false I];rfl
theorem qGU{vs:LI}(I:vs.Pairwise (·< ·)):∀q∈plO vs o,0<=q/\q<vs.length:=λq hq=>by
 obtain⟨v,hv,rfl⟩:=List.mem_map.1 hq;have:=(ZJ (uZ I) (of_decide_eq_true (List.mem_filter.1 hv).2)).1;omega
theorem qDp{vs:LI}(I:vs.Pairwise (·< ·))(rows:LL):zq rows (plO vs o)=rows.map (qI vs (shr o vs)):=by
 unfold zq;refine List.map_congr_left λr _=>?_;unfold atP plO qI shr;rw[List.map_map];refine List.map_congr_left λv hv=>?_;obtain⟨K,M⟩:=ZJ (uZ I) (of_decide_eq_true (List.mem_filter.1 hv).2);show r.getD ((bsQ vs v:Int)).toNat 0=vlF vs r v;rw[show((bsQ vs v:Int)).toNat=bsQ vs v by omega];have:=jS vs r (bsQ vs v) I K;rw[M]at this;exact this.symm
theorem ji{A X:World}(h:Bl A X)(o:Obj):Bl A (X.alloc o):=h.alloc h.size o
def ISSn(w:World)(v:Value)(ls:LL):Prop:=∃a cap,v=.slice a ls.length cap/\(ls.length=0∨∃b o,a=some (az b o)/\∀j,j<ls.length->∃ad c,w.cell? (az b (o+j))=some (.slice (some ad) (ls.getD j []).length c)/\IS w (.slice (some ad) (ls.getD j []).length c) (ls.getD j []))
theorem ISSn.iss(h:ISSn w v ls):ISS w v ls:=by
 obtain⟨a,cap,e,I⟩:=h;refine⟨a,cap,e,?_⟩;rcases I with I|⟨b,o,K,I⟩;exact Or.inl I;refine Or.inr ⟨b,o,K,λj M=>?_⟩;obtain⟨V,c,O,U⟩:=I j M;exact⟨_,O,U⟩
theorem RQ.issn(h:RQ W B v us ls)(hp:∀i,i<ls.length->0<(ls.getD i []).length):ISSn W v ls:=by
 obtain⟨a,cap,e,-⟩:=h.rs.sl;refine⟨a,cap,e,?_⟩;by_cases h0:ls.length=0;exact Or.inl h0;obtain⟨g,O,I,-,-⟩:=h.get (i:=0) Oo;rw[e]at I;simp only[Value.slice.injEq]at I;refine Or.inr ⟨g,0,I.1,λj K=>?_⟩;obtain⟨g2,U,M,-,hc⟩:=h.get K;rw[e]at M;simp only[Value.slice.injEq]at M;have hg:g2=g:=by have:=M.1.symm.trans I.1;simpa using this
 subst hg;have ho:=h.each j K;obtain⟨g3,c3,V,-⟩:=xN ho (hp j K);refine⟨(az g3 0),c3,by rw[Nat.zero_add,hc,V],?_⟩;rw[<-V];exact qS ho
theorem qBx{I:Addr}{n:Nat}(h:IS w (.slice (some I) n c) l):∀j u,(l.map ai)[j]?=some u->w.cell? (I.add j)=some u:=λj u K=>by
 have O:j<l.length:=by
  rcases Nat.lt_or_ge j l.length with h|h;exact h;rw[gN (by simpa using h)]at K;cases K
 obtain⟨a',c',e,M⟩:=h;simp only[Value.slice.injEq]at e;rcases M with h0|⟨b,o,U,M⟩;omega;have V:I=(az b o):=Option.some.inj (e.1.trans U);rw[V,show(((az b o):Addr).add j)=(az b (o+j))by unfold Addr.add;split <;> simp_all,M j O,<-K,bK,gD,gE O];rfl
theorem ISds.below{I:List SdM}(h:ISds W v I)(hb:Bl W W'):ISds W' v I:=by
 obtain⟨a,cap,e,K⟩:=h;refine⟨a,cap,e,K.imp id ?_⟩;rintro⟨b,o,M,O⟩;exact⟨b,o,M,λj U=>(O j U).below hb⟩
def nxL(f:LI->LI)(L:LL)(i:Nat):LL:=(L.take i).flatMap λq=>(f q).map λv=>q++[v]
theorem qEB(f:LI->LI){L:LL}(hi:i<L.length):nxL f L (i+1)=nxL f L i++(f (L.getD i [])).map λv=>L.getD i []++[v]:=by
 unfold nxL;rw[tA,gE hi,List.flatMap_append,gD,gE hi];simp
theorem qGc(f:LI->LI)(L:LL)(i:Nat):(nxL f L i).length<=(L.flatMap λq=>(f q).map λv=>q++[v]).length:=by
 have e:L.flatMap (λq=>(f q).map λv=>q++[v])=nxL f L i++(L.drop i).flatMap λq=>(f q).map λv=>q++[v]:=by
  unfold nxL;rw[<-List.flatMap_append,tD]
 rw[e,lA];omega
def mxL(q:LI)(xs:LI)(m:Nat):LL:=(xs.take m).map λv=>q++[v]
theorem qEC(h:m<xs.length):mxL q xs (m+1)=mxL q xs m++[q++[xs.getD m 0]]:=by
 unfold mxL;rw[qy h,mA];rfl
theorem qFV(h:m<=xs.length):(mxL q xs m).length=m:=by
 unfold mxL;rw[lM,bW];omega
end Go.Proofs.YtcnfapnfmnolbaaGreat
