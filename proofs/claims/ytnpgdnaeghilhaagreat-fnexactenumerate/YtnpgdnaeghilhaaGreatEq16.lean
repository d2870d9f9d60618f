import Derived.Test.YtnpgdnaeghilhaaGreatEq12
import Derived.Test.YtnpgdnaeghilhaaGreatEq14
import Derived.Test.YtnpgdnaeghilhaaGreatEq15
set_option maxHeartbeats 40000000
set_option maxRecDepth 1000000
namespace Go.Proofs.YtnpgdnaeghilhaaGreat
open Go.Proofs.Tryz Go.RowKit
variable {x y:Int}{prs ps hs:LI}{bs:LL}{rl:List TbR}{T tl:List TbV}{xs:LV}{B I K c g g0 g1 g2 g3 hi j k lo n nh np nw off q r s i:Nat}{t:TbR}{e ty:TypeId}{u v0 v1 v2 v3 vb x1 x2 vt v z O V y0 y1 y2 x0:Value}{M W W' W0 X Y w0 wb w a Z:World}
theorem JJ w(h:ITs w vt tl)(hl:tl.length<=1048576):
 Cl 39 #[vt] w λe w'=>∃v,e=.returned v/\ISS w' v (tl.map TbV.vs)/\Bl w w':=by
 obtain⟨iS,O,d1,d2,d3⟩:=info_parts Tryz.infoIS;obtain⟨d4,ct,rfl,hc⟩:=h;have HC:Hh (∀W,Bl w W->∀j,j<tl.length->∃b oo v0,d4=some (az b oo)/\TabAt W b (oo+j*3) (tl.getD j qA)/\W.cell? (az b (oo+j*3))=some v0/\IS w v0 (tl.getD j qA).vs):=ay λW hW j O=>by
  rcases hc with h0|⟨b,oo,rfl,h⟩;omega;obtain⟨v0,v1,v2,c0,c1,c2,hI⟩:=h j O;exact⟨b,oo,v0,rfl,(h j O).below hW,xE hW c0,hI.vs⟩
 have HE:Hh (∀(W:World) (v:Value) (us:LV),Bl w W->W.ownsRow w.1.size 24 1 v tl.length us->(∀i,i<tl.length->IS w (us.getD i undef) (tl.getD i qA).vs)->ISS W v (tl.map TbV.vs)):=ay λW v us hW ho hu=>by
  have eg:∀i,i<tl.length->(tl.map TbV.vs).getD i []=(tl.getD i qA).vs:=λi hi=>by rw[gD,bK,gD,gE hi];rfl
  have d9:=ho.1;rcases ho.2 with ⟨rfl,hn⟩|⟨g,cap,cur,rfl,hb',hh,hn,-,-,ht⟩;exact⟨none,0,by rw[lM,hn],Or.inl (by rw[lM];exact hn)⟩;refine⟨_,cap,by rw[lM],Or.inr ⟨g,0,rfl,λj O=>?_⟩⟩;rw[lM]at O;refine⟨us.getD j undef,?_,by rw[eg j O];exact(hu j O).below hW⟩;rw[cU,fA _ _ _ _ _ _ hh,<-dY,<-cL (by omega:j<tl.length*1),ht,gD,gE Oo];rfl
 obtain⟨n,hn⟩:=Ex tl.length;rw[<-hn]at hl HC HE |-;clear hn hc;obtain⟨W1,V⟩:=Ex (w.alloc (.cells #[] 24));have a3:Hh (Bl w W1/\W1.ownsRow w.1.size 24 1 (sZ w.1.size 0 0 0) 0 []):=ay (by
  rw[V];exact⟨aK,oM w _ 0 (nR _) Dd rfl⟩)
 go_enter func39,ntmps39;go_upto_region 2 with fail;rw[<-V];clear V;go_wp2;go_loopw [3,9] (λu t wr=>∃(j:Nat) (vv:Value),j<=n/\t=ai j/\vv=u/\Hh (∃us,Bl w wr/\wr.ownsRow w.1.size 24 1 vv j us/\∀i,i<j->IS w (us.getD i undef) (tl.getD i qA).vs)) (λ_ t _=>n-(intOf t).toNat);exact⟨0,_,nZ _,rfl,rfl,ay ⟨[],a3.1,a3.2,λi hi=>Oo⟩⟩;clear a3;obtain⟨j,vv,e3,rfl,rfl,HT⟩:=hrel;obtain⟨us,hB,hO,hU⟩:=HT.o;change Hh _ at hB hO hU;clear HT;by_cases d5:j<n
 .have i1:(j:Int)<n:=Oo;obtain⟨b,oo,d6,ea,⟨v0,v1,v2,c0,c1,c2,hI⟩,a4,b1⟩:=HC _ hB j d5;subst ea;obtain rfl:d6=v0:=by rw[c0]at a4;exact(Option.some.inj a4).symm
  obtain⟨a0,k0,e0,-⟩:=hI.vs;obtain⟨a1,k1,e1,-⟩:=hI.rows;obtain⟨a2,k2,e2,-⟩:=hI.ws;subst e0 e1 e2;change Hh _ at b1;clear a4 hI;generalize (tl.getD j qA).rows.length=nr at *;generalize (tl.getD j qA).ws.length=n2 at *;obtain⟨W3,K⟩:=Ex (wr.alloc (.cells #[.slice a0 (tl.getD j qA).vs.length k0,.slice a1 nr k1,.slice a2 n2 k2] 58));have a5:Bl wr W3:=by rw[K];exact(bJ _ _).alloc (nR _) _
  have d0:W3.cell? (az wr.1.size 0)=some (.slice a0 (tl.getD j qA).vs.length k0):=by rw[K,bE _ _ _ _ rfl];rfl
  have a6:=ay (bt hB a5);have a7:=ay (qB hO a5);have d7:=a6.o.size;clear a5;have b8:us.length=j:=O1 hO.1
  have a8:=ay b8;clear b8;obtain⟨nv,a9⟩:=Ex ((tl.getD j qA).vs.length);rw[<-a9]at c0 d0 K;have b9:Hh (IS w (.slice a0 nv k0) (tl.getD j qA).vs):=ay (by rw[a9];exact b1);clear a9 b1;go_upto_region 5 with fail;rw[<-K];clear K c0 c1 c2;go_wp2_with (at_builtin;refine wpList_append_lies _ rfl _ _ 23 rfl _ 24 _ _ 1 _ underlying23 O d1 d2 d3 rfl Dd vv _ _ rfl (a7.o.alloc _) (az _ 0) 1 1 _ rfl rfl (qH _ _ _) (λu hu=>by simp at hu;subst hu;rfl) Dd Um Oo Sy _ rfl ?_;intro g6 d8 w6 M I c7 c8);have HN:Hh (∃c9,Bl w w6/\w6.ownsRow w.1.size 24 1 (sZ g6 0 (j+1) d8) (j+1) c9/\∀i,i<j+1->IS w (c9.getD i undef) (tl.getD i qA).vs):=ay ⟨us++[.slice _ _ _],(a6.o.alloc d7 _).grown I Sy (λq hq=>(a7.o.lt q hq).1),M,λi hi=>by
   by_cases e:i<j;rw[gD,aL (by rw[a8.o];exact e),<-gD];exact hU i e;obtain rfl:i=j:=Oo;rw[gD,bQ (by rw[a8.o];exact nR _),a8.o,Nat.sub_self];exact b9⟩
  clear M I c7 c8 a6 a7;go_roundw;exact⟨j+1,_,Oo,Gg,rfl,HN⟩;exact Im
 obtain rfl:j=n:=Oo;have i1:¬((j:Int)<j):=Oo;have HF:=ay (HE _ _ _ hB hO hU);clear HC HE hO hU;go_wp2;go_ret;exact⟨vv,rfl,HF,hB⟩
structure PX(ty:TypeId)(W:World)(p:Nat)(v0 v1 v2 v3:Value)(x y:Int):Prop where
 blk:W.1[p]?=some (.cells #[v0,v1,v2,v3,ai x,ai y] ty (0,0))
section
variable {ty:TypeId} {W W':World} {p:Nat} {v0 v1 v2 v3:Value} {x y:Int}
theorem PX.lt(h:PX ty W p v0 v1 v2 v3 x y):p<W.1.size:=by
 rcases dL p W.1.size with I|I;exact I;have:=h.blk;rw[dO I]at this;cases this
theorem PX.below(h:PX ty W p v0 v1 v2 v3 x y)(hb:Bl W W'):PX ty W' p v0 v1 v2 v3 x y:=⟨(hb.block p h.lt).trans h.blk⟩
theorem PX.six(h:PX ty W p v0 v1 v2 v3 x y):W.cell? (az p 0)=some v0/\W.cell? (az p 1)=some v1/\W.cell? (az p 2)=some v2/\W.cell? (az p 3)=some v3/\W.cell? (az p 4)=some (ai x)/\W.cell? (az p 5)=some (ai y):=by
 refine⟨?_,?_,?_,?_,?_,?_⟩ <;> (rw[fA _ _ _ _ _ _ h.blk];rfl)
theorem PX.made ty(W:World)v0 v1 v2 v3 x y:PX ty (W.alloc (.cells #[v0,v1,v2,v3,ai x,ai y] ty)) W.1.size v0 v1 v2 v3 x y:=⟨dZ _ _⟩
end
theorem Vk(hl:tl.length<=1048576)(hs:∀t∈tl,TvS t):qS (tl.map TbV.vs):=⟨by rw[lM];omega,λj=>by
 rw[gD,bK];cases e:tl[j]? with
 |none=>exact nZ _
 |some t=>exact(hs t (List.mem_of_getElem? e)).vs⟩
theorem JK w k x y{ws}(h:ITs w vt tl)(hl:tl.length<=1048576)(hs':∀t∈tl,TvS t)(V:IPl w v0 v1 v2 v3 bs ps hs ws)(c8:qS bs):
 aG 24 #[ai k,vt,.agg #[v0,v1,v2,v3,ai x,ai y]] w (.bool (qc k tl bs ps hs ws (x,y))):=by
 have a7:∀W:World,Bl W W.drew:=λW=>(bJ _ _).drew;have KE:=ay λW O=>JJ W (h.below O) hl;have KP:=ay λW v O hv=>Jn W v k x y hv (Vk hl hs') (V.below O).b c8 (V.below O).p (V.below O).h (V.below O).d;obtain⟨a0,k0,rfl,-⟩:=V.b;obtain⟨a1,k1,rfl,-⟩:=V.p;obtain⟨a2,k2,rfl,-⟩:=V.h;obtain⟨a3,k3,rfl,-⟩:=V.d;clear V c8;obtain⟨d8,ct,rfl,hc⟩:=h;have HC:Hh (∀W,Bl w W->∀j,j<tl.length->∃b oo,d8=some (az b oo)/\TabAt W b (oo+j*3) (tl.getD j qA)):=ay λW O j hj=>by
  rcases hc with h0|⟨b,oo,rfl,h⟩;omega;exact⟨b,oo,rfl,(h j hj).below O⟩
 have HR:Hh (∀j,j<tl.length->TvS (tl.getD j qA)):=ay λj hj=>hs' _ (by rw[gD,gE hj];exact gM _);obtain⟨pl,a8⟩:=Ex (zX k (tl.map TbV.vs) bs ps hs ws (x,y));obtain⟨res,I⟩:=Ex (qc k tl bs ps hs ws (x,y));have HA:Hh (∀j,j<tl.length->qW (tl.getD j qA)=false->res=false):=ay λj hj e=>by
  have:tl.all qW=false:=by
   rw[List.all_eq_false];exact⟨_,by rw[gD,gE hj]at e;exact gM hj,by rw[gD,gE hj]at e;simp only[Option.getD_some]at e;rw[e];simp⟩
  rw[I];unfold qc;rw[this,Bool.false_and]
 have K:Hh ((∀i,i<tl.length->qW (tl.getD i qA)=true)->res=pl):=ay λh=>by
  have:tl.all qW=true:=by
   rw[aT];intro t ht;obtain⟨i,hi,rfl⟩:=gO ht;have:=h i hi;rw[gD,gE hi]at this;exact this
  rw[I,a8];unfold qc;rw[this,dG]
 rw[<-a8]at KP;rw[<-I];clear I hs' a8;obtain⟨n,hn⟩:=Ex tl.length;rw[<-hn]at hl HC HR HA K KE |-;clear hn hc;generalize bs.length=nb,ps.length=np,hs.length=nh,ws.length=nw at *;obtain⟨W1,a4⟩:=Ex (w.alloc (.cells #[.slice a0 nb k0,.slice a1 np k1,.slice a2 nh k2,.slice a3 nw k3,ai x,ai y] 38));have d9:Hh (PX 38 W1 w.1.size (.slice a0 nb k0) (.slice a1 np k1) (.slice a2 nh k2) (.slice a3 nw k3) x y):=ay (by rw[a4];exact PX.made _ _ _ _ _ _ _ _);have c9:Hh (Bl w W1):=ay (by rw[a4];exact(bJ _ _).alloc (nR _) _);go_enter func24,ntmps24;go_upto_region 1 with fail;rw[<-a4];clear a4;go_wp2;go_loopw [11] (λt wr=>∃(j:Nat),j<=n/\t=ai j/\Hh ((∀i,i<j->qW (tl.getD i qA)=true)/\Bl W1 wr)) (λt _=>n-(intOf t).toNat);exact⟨0,nZ _,rfl,ay ⟨λi hi=>Oo,bJ _ _⟩⟩;obtain⟨j,e8,rfl,HT⟩:=hrel;have a5:=ay (bt c9 HT.2);by_cases a9:j<n
 .have i1:(j:Int)<n:=Oo;obtain⟨b,oo,ea,v0,v1,v2,c0,c1,c2,hI⟩:=HC _ a5 j a9;subst ea;have b1:=ay (HR j a9);have d3:=ay (HA j a9);obtain⟨W3,a6⟩:=Ex (wr.alloc (.cells #[v0,v1,v2] 58));have b7:Bl wr W3:=by rw[a6];exact(bJ _ _).alloc (nR _) _
  have b8:Hh (TX W3 wr.1.size v0 v1 v2):=ay (by rw[a6];exact TX.made _ _ _ _);have KT:=ay (Uh (hI.below b7) b1.o.vs b1.o.rows);have d4:=ay (bt HT.2 b7);have HP:=ay HT.1;obtain⟨e9,f7,e0,-⟩:=hI.vs;obtain⟨f8,f9,e1,-⟩:=hI.rows;obtain⟨g4,g5,e2,-⟩:=hI.ws;subst e0 e1 e2;have ey:ql (tl.getD j qA).vs (tl.getD j qA).rows (tl.getD j qA).ws=qW (tl.getD j qA):=rfl;rw[ey]at KT;have d5:Hh (qW (tl.getD j qA)=true->∀i,i<j+1->qW (tl.getD i qA)=true):=ay λhy i hi=>by
   by_cases e:i=j;rw[e];exact hy;exact HP i Oo
  generalize qW (tl.getD j qA)=y at KT d3 d5;generalize (tl.getD j qA).rows.length=nr at *;generalize (tl.getD j qA).vs.length=n0 at *;generalize (tl.getD j qA).ws.length=n2 at *;clear b7 hI HT ey b1;have d0:=b8.o.c0;have d1:=b8.o.c1;have d2:=b8.o.c2;go_upto_region 4 with fail;rw[<-a6];clear a6 c0 c1 c2;cases y
  .have e3:=ay (d3 rfl);go_wp2_with (go_at_call 37;apply KT.o.mono;rintro e w4 ⟨rfl,b9⟩);go_ret;exact⟨by rw[e3.o];rfl,bt (bt c9 d4) b9⟩
  go_wp2_with (go_at_call 37;apply KT.o.mono;rintro e w4 ⟨rfl,b9⟩);go_roundw;exact⟨j+1,Oo,Gg,ay ⟨d5 (by first|rfl|trivial),bt d4 b9⟩⟩;exact Im
 obtain rfl:j=n:=Oo;have i1:¬((j:Int)<j):=Oo;have M:=ay (K HT.1);have e4:=ay (d9.o.below HT.2);clear HT HC HR HA K;have d6:Hh (∀W,Bl wr W->W.cell? (az w.1.size 0)=some (.slice a0 nb k0)/\W.cell? (az w.1.size 1)=some (.slice a1 np k1)/\W.cell? (az w.1.size 2)=some (.slice a2 nh k2)/\W.cell? (az w.1.size 3)=some (.slice a3 nw k3)/\W.cell? (az w.1.size 4)=some (ai x)/\W.cell? (az w.1.size 5)=some (ai y)):=ay λW O=>(e4.o.below O).six;obtain⟨s0,s1,s2,s3,s4,s5⟩:=d6 _ (a7 _);have e5:=ay (KE _ (bt a5 (a7 _)));clear KE;go_upto_region 7 with fail;go_region_law (first
  |(go_simp;go_at_call 39;apply e5.o.mono;rintro e w2 ⟨v2,rfl,e6,d7⟩;have c7:=bt (a7 _) d7;obtain⟨r0,r1,r2,r3,r4,r5⟩:=d6 _ c7)
  |(go_simp;go_at_call 38;apply (KP.o _ _ (bt a5.o c7) e6).mono;rintro e w3 ⟨rfl,e7⟩)
  |fail)
 all_goals go_wp2_with fail
 all_goals go_ret
 all_goals exact⟨by first|(rw[M.o];rfl)|(rw[M.o];done)|rw[M.o],bt (bt a5 c7) e7⟩
open Meet
theorem J4(W:World)(h:B<=W.1.size):TBs (W.alloc (.cells #[] 58)) B (sZ W.1.size 0 0 0) []:=⟨oM W #[] 0 h Dd rfl,λt I=>by simp at I,List.Pairwise.nil⟩
theorem qDH w k x y{ws}(h:ITs w vt tl)(hl:tl.length<=1048576)(hs':∀t∈tl,TvS t)(hp:IPl w v0 v1 v2 v3 bs ps hs ws)(h7:qS bs)(h8:ps.length<=1099511627776):
 Cl 65 #[ai k,vt,.agg #[v0,v1,v2,v3,ai x,ai y]] w λe w'=>∃v rl,e=.returned (.tuple #[v,ai (yh k tl bs ps hs ws (x,y))])/\TBs w' w.1.size v rl/\rl.map tvB=vF k tl bs ps hs ws (x,y)/\Bl w w':=by
 obtain⟨iT,hj,j4,j5,j6⟩:=info_parts Tryz.infoTb;have l0:Tryz.prog.follows .mixedOrders=true:=Kl;have b9:∀W:World,Bl W W.drew:=λW=>(bJ _ _).drew;have KA:=ay λW K=>QD W (h.below K) Oo hs';have KE:=ay λW K=>jb W (h.below K) hl;have KP:=ay λW v K hv=>Zw W v k x y hv (Vk hl hs') (hp.below K).b h7 (hp.below K).p h8 (hp.below K).h (hp.below K).d;have KB:Hh (qc k tl bs ps hs ws (x,y)=true->∀W vb j,Bl w W->j<bs.length->IS W vb (bs.getD j [])->Cl 85 #[vb,vt] W λe w'=>∃(q0:OA) (m0 z0:Nat) (q1:OA) (m1 z1:Nat) (q2:OA) (m2 z2:Nat) (us:LV),e=.returned (.tuple #[.agg #[.slice q0 m0 z0,.slice q1 m1 z1,.slice q2 m2 z2],ai (bgV tl (bs.getD j []))])/\TWr w' W.1.size ⟨.slice q0 m0 z0,.slice q1 m1 z1,.slice q2 m2 z2,us,(bgT tl (bs.getD j [])).vs,(bgT tl (bs.getD j [])).rows,(bgT tl (bs.getD j [])).ws⟩/\Bl W w'):=ay λhr W vb j K hj hb=>by
  obtain⟨r1,r2,r3,r4,r5⟩:=zR hr;apply (Vj W hb (h.below K) (r5 j hj).2 r4 (λt ht=>aT.1 r1 t ht)).mono;rintro e w' ⟨x0,x1,x2,us,rfl,hT,hb'⟩;obtain⟨q0,z0,e0⟩:=qG hT.o0;obtain⟨q1,z1,e1⟩:=qG hT.rq.own;obtain⟨q2,z2,e2⟩:=qG hT.o2;subst e0 e1 e2;exact⟨_,_,_,_,_,_,_,_,_,us,rfl,hT,hb'⟩
 have e5:Hh (∀W,Bl w W->∀j,j<bs.length->∃(a:OA) (b o:Nat) (u:Value) (cap:Nat),v0=.slice a bs.length cap/\a=some (az b o)/\aC W b (o+j) u/\IS W u (bs.getD j [])):=ay λW K j hj=>by
  obtain⟨a,cap,e,hh⟩:=(hp.below K).b;rcases hh with h0|⟨b,o,ea,hh⟩;omega;obtain⟨u,h1,h2⟩:=hh j hj;exact⟨a,b,o,u,cap,e,ea,h1,h2⟩
 have a9:Hh (qc k tl bs ps hs ws (x,y)=(tl.all qW&&zX k (tl.map TbV.vs) bs ps hs ws (x,y))):=ay rfl;have c7:Hh (qc k tl bs ps hs ws (x,y)=false->vF k tl bs ps hs ws (x,y)=[]/\yh k tl bs ps hs ws (x,y)=-1):=ay qJc;have O:Hh (∀j,j<bs.length->bgV tl (bs.getD j [])<0->vF k tl bs ps hs ws (x,y)=[]/\yh k tl bs ps hs ws (x,y)=-1):=ay λj hj hn=>qIg hj hn;have V:Hh (qc k tl bs ps hs ws (x,y)=true->(∀i,i<bs.length->0<=bgV tl (bs.getD i []))->vF k tl bs ps hs ws (x,y)=bs.map (bgT tl)/\yh k tl bs ps hs ws (x,y)=uB tl bs bs.length):=ay qIh;have a4:Hh (qc k tl bs ps hs ws (x,y)=true->bs.length<=12):=ay λhr=>(zR hr).2.2.1;have e6:Hh (∀j,j<bs.length->uB tl bs (j+1)=uB tl bs j+bgV tl (bs.getD j [])):=ay λj hj=>Uj hj;have e7:=ay (qCa tl bs);have h9:Hh (∀b,-1<=bgV tl b/\bgV tl b<=60000):=ay λb=>⟨qCZ,qCY⟩;have e8:Hh (∀j,j<bs.length->(bs.take (j+1)).map (bgT tl)=(bs.take j).map (bgT tl)++[bgT tl (bs.getD j [])]):=ay λj hj=>qEJ hj;have i0:Hh ((bs.take bs.length).map (bgT tl)=bs.map (bgT tl)):=ay (by rw[tL]);obtain⟨a0,k0,rfl,-⟩:=hp.b;obtain⟨a1,k1,rfl,-⟩:=hp.p;obtain⟨a2,k2,rfl,-⟩:=hp.h;obtain⟨a3,k3,rfl,-⟩:=hp.d;clear hp h7 hs' h8;obtain⟨l1,ct,rfl,-⟩:=h;generalize zX k (tl.map TbV.vs) bs ps hs ws (x,y)=PL,qc k tl bs ps hs ws (x,y)=RD,vF k tl bs ps hs ws (x,y)=GT,yh k tl bs ps hs ws (x,y)=GV,tl.length=n at *;obtain⟨nb,i3⟩:=Ex bs.length;rw[<-i3]at KP KB e5 O V a4 e6 e7 e8 i0 |-;clear i3;generalize ps.length=np at *;generalize hs.length=nh at *;generalize ws.length=nw at *;obtain⟨W1,a5⟩:=Ex (w.alloc (.cells #[.slice a0 nb k0,.slice a1 np k1,.slice a2 nh k2,.slice a3 nw k3,ai x,ai y] 38));have i4:Hh (PX 38 W1 w.1.size (.slice a0 nb k0) (.slice a1 np k1) (.slice a2 nh k2) (.slice a3 nw k3) x y):=ay (by rw[a5];exact PX.made _ _ _ _ _ _ _ _);have a6:Hh (Bl w W1):=ay (by rw[a5];exact(bJ _ _).alloc (nR _) _);have a7:Hh (∀W,Bl W1 W->W.cell? (az w.1.size 0)=some (.slice a0 nb k0)/\W.cell? (az w.1.size 1)=some (.slice a1 np k1)/\W.cell? (az w.1.size 2)=some (.slice a2 nh k2)/\W.cell? (az w.1.size 3)=some (.slice a3 nw k3)/\W.cell? (az w.1.size 4)=some (ai x)/\W.cell? (az w.1.size 5)=some (ai y)):=ay λW K=>(i4.o.below K).six;obtain⟨s0,s1,s2,s3,s4,s5⟩:=a7 _ (b9 _);have b7:=ay (KA _ (bt a6 (b9 _)));have c8:Hh (∀W,Bl w W->GT=[]/\GV=-1->∃v rl,Ending.returned (.tuple #[sZ W.1.size 0 0 0,ai (-1)])=.returned (.tuple #[v,ai GV])/\TBs (W.alloc (.cells #[] 58)) w.1.size v rl/\rl.map tvB=GT/\Bl w (W.alloc (.cells #[] 58))):=ay λW K hg=>⟨_,[],by rw[hg.2],J4 W K.size,by rw[hg.1];rfl,x8 K _⟩;clear KA i4;cases hA:tl.all qW with
 |false=>
  rw[hA]at b7 a9;have HG:=ay (c7 a9);clear c7 a9 hA KB KP KE O V a4;go_enter func65,ntmps65;go_upto_region 1 with fail;rw[<-a5];clear a5
  first|go_region_law (first
   |(go_simp;go_at_call 81;apply b7.o.mono;rintro e w2 ⟨rfl,a8⟩;have I:=bt (b9 _) a8;obtain⟨r0,r1,r2,r3,r4,r5⟩:=a7 _ I)
   |fail)|fail
  all_goals go_wp2_with fail
  all_goals go_ret2
  all_goals exact c8 _ (bt a6 I) HG
 |true=>
  rw[hA]at b7 a9;rw[dG]at a9;have b8:=ay a9.o;clear hA a9;cases PL with
  |false=>
   have HG:=ay (c7 b8);clear c7 b8 KB O V a4;go_enter func65,ntmps65;go_upto_region 1 with fail;rw[<-a5];clear a5;go_region_law (first
    |(go_simp;go_at_call 81;apply b7.o.mono;rintro e w2 ⟨rfl,a8⟩;have I:=bt (b9 _) a8;obtain⟨r0,r1,r2,r3,r4,r5⟩:=a7 _ I)
    |(go_simp;go_at_call 61;apply (KE.o _ (bt a6.o I)).mono;rintro e w3 ⟨v3,rfl,e9,c9⟩;have b1:=bt I c9;obtain⟨t0,t1,t2,t3,t4,t5⟩:=a7 _ b1)
    |(go_simp;go_at_call 60;apply (KP.o _ _ (bt a6.o b1) e9).mono;rintro e w4 ⟨rfl,d3⟩;have f7:=bt b1 d3)
    |fail)
   all_goals go_wp2_with fail
   all_goals go_ret2
   all_goals exact c8 _ (bt a6 f7) HG
  |true=>
   have i5:=ay (KB b8);have k4:=ay (V b8);have h12:=a4 b8;clear c7 KB V a4 b8;go_enter func65,ntmps65;go_upto_region 1 with fail;rw[<-a5];clear a5;go_cut [24] from 14 to 23 (λv wx=>v=.bool false/\Hh (Bl W1 wx))
   case first=>
    go_region_law (first
     |(go_simp;go_at_call 81;apply b7.o.mono;rintro e w2 ⟨rfl,a8⟩;have I:=bt (b9 _) a8;obtain⟨r0,r1,r2,r3,r4,r5⟩:=a7 _ I)
     |(go_simp;go_at_call 61;apply (KE.o _ (bt a6.o I)).mono;rintro e w3 ⟨v3,rfl,e9,c9⟩;have b1:=bt I c9;obtain⟨t0,t1,t2,t3,t4,t5⟩:=a7 _ b1)
     |(go_simp;go_at_call 60;apply (KP.o _ _ (bt a6.o b1) e9).mono;rintro e w4 ⟨rfl,d3⟩;have f7:=bt b1 d3)
     |fail)
    all_goals(go_wp2;go_meet)
    all_goals exact⟨rfl,ay f7⟩
   case rest=>
   obtain⟨rfl,f8⟩:=hcut;generalize wc=w4 at *;have f9:=ay (bt a6 f8);have k5:=ay λW K=>(a7 W (bt f8 K)).1;clear b7 KE KP f8 s0 s1 s2 s3 s4 s5 a7;have s4:=f9.o.size;obtain⟨W5,g4⟩:=Ex (w4.alloc (.cells #[] 58));have d9:Hh (Bl w4 W5/\TBs W5 w4.1.size (sZ w4.1.size 0 0 0) []):=ay (by rw[g4];exact⟨aK,J4 _ (nR _)⟩);have c5:=k5 _ d9.1;go_upto_region 4 with fail;rw[<-g4];clear g4;go_wp2_with fail;clear c5;have i6:Hh ((0:Int)=uB tl bs 0):=ay rfl;go_loopw [8,9,30] (λv8 v9 t wr=>∃(j:Nat) (vj:Value) (z:Int),j<=nb/\t=ai j/\vj=v8/\v9=ai z/\Hh (z=uB tl bs j/\(∃rl,Bl w4 wr/\TBs wr w4.1.size vj rl/\rl.map tvB=(bs.take j).map (bgT tl))/\∀i,i<j->0<=bgV tl (bs.getD i []))) (λ_ _ t _=>nb-(intOf t).toNat);exact⟨0,_,0,nZ _,rfl,rfl,rfl,ay ⟨i6,⟨[],d9.1,d9.2,rfl⟩,λi hi=>Oo⟩⟩;clear d9 i6;obtain⟨j,vj,z,k6,rfl,rfl,rfl,HT⟩:=hrel;obtain⟨hz,⟨rl,hB,hT,hE⟩,hV⟩:=HT.o;change Hh _ at hB hT hE hV hz;have k7:=e7 j k6;rw[<-hz]at k7;clear HT;by_cases d5:j<nb
   .have i1:(j:Int)<nb:=Oo;have g5:=ay (bt f9 hB);obtain⟨a,b,o,u,cap,ev,ea,e1,hu⟩:=e5 _ g5 j d5;simp only[Value.slice.injEq,true_and]at ev;obtain⟨rfl,-⟩:=ev;subst ea;have g6:=ay (i5 _ u j g5 d5 hu);have g7:=ay (O j d5);have e3:=ay (e8 j d5);have g8:=ay (e6 j d5);have l2:=h9 (bs.getD j []);have h3:Hh (0<=bgV tl (bs.getD j [])->∀i,i<j+1->0<=bgV tl (bs.getD i [])):=ay λhy i hi=>by
     by_cases e:i=j;rw[e];exact hy;exact hV i Oo
    obtain⟨au,cu,rfl,-⟩:=hu;generalize (bs.getD j []).length=lb at *;obtain⟨tv,i7⟩:=Ex (bgT tl (bs.getD j []));rw[<-i7]at g6 e3;clear i7;generalize bgV tl (bs.getD j [])=BV at *;clear i5 O e8 e6 e7 h9 e5;go_upto_region 8 with (go_at_call 85;apply g6.o.mono;rintro e w6 ⟨q0,m0,z0,q1,m1,z1,q2,m2,z2,i8,rfl,i9,j0⟩);obtain⟨W7,e4⟩:=Ex (w6.alloc (.cells #[.slice q0 m0 z0,.slice q1 m1 z1,.slice q2 m2 z2] 58));have h4:Bl w6 W7:=by rw[e4];exact(bJ _ _).alloc (nR _) _
    have d6:Hh (TX W7 w6.1.size (.slice q0 m0 z0) (.slice q1 m1 z1) (.slice q2 m2 z2)):=ay (by rw[e4];exact TX.made _ _ _ _);have h5:Hh (TWr W7 wr.1.size ⟨.slice q0 m0 z0,.slice q1 m1 z1,.slice q2 m2 z2,i8,tv.vs,tv.rows,tv.ws⟩):=ay (TW.below i9 h4);have d7:=ay (bt j0 h4);rw[<-e4];clear e4 i9 j0 h4 g6 e1;by_cases j1:BV<0
    .have HG:=ay (g7 j1);clear d6 h5 hT hE hV h3 g7 e3 g8;go_wp2;go_ret2;exact c8 _ (bt g5 d7) HG
    have l3:rl.length<=12:=by have h1:=congrArg List.length hE;rw[lM,lM,bZ]at h1;omega
    have h6:=ay (qB hT.o.own d7);have d0:=d6.o.c0;have d1:=d6.o.c1;have d2:=d6.o.c2;have l4:=d7.o.size;have k8:=hB.o.size;go_wp2_with (at_builtin;refine wpList_append_lies _ rfl _ _ 33 rfl w4.1.size 58 iT (.agg #[sn,sn,sn]) 3 72 underlying33 hj j4 j5 j6 rfl Dd vj rl.length (rl.flatMap tcs) rfl (h6.o.alloc _) (az _ 0) 1 1 [.slice q0 m0 z0,.slice q1 m1 z1,.slice q2 m2 z2] rfl rfl (uT _ _ _ _ _) (λu hu=>by simp at hu;rcases hu with rfl|rfl|rfl <;> rfl) Dd Um Oo Sy _ rfl ?_;intro g9 k9 w9 d8 M j2 j3);have HN:Hh (z+BV=uB tl bs (j+1)/\(∃rl',Bl w4 w9/\TBs w9 w4.1.size (sZ g9 0 (rl.length+1) k9) rl'/\rl'.map tvB=(bs.take (j+1)).map (bgT tl))/\∀i,i<j+1->0<=bgV tl (bs.getD i [])):=ay ⟨by rw[g8.o,hz.o],⟨_,(x8 (bt hB d7) _).grown M Sy (λq hq=>(h6.o.lt q hq).1),hT.o.row k8 W7 ⟨.slice q0 m0 z0,.slice q1 m1 z1,.slice q2 m2 z2,i8,tv.vs,tv.rows,tv.ws⟩ _ w9 _ d7 h5 M d8,by rw[mA,hE.o,e3.o];rfl⟩,h3 Oo⟩;clear d8 M j2 j3 h6 hT h5 d6 hE hV h3 g7 e3 g8 hz d0 d1 d2;go_wp2;go_roundw;exact⟨j+1,_,z+BV,Oo,Gg,rfl,rfl,HN⟩;exact Im
   obtain rfl:j=nb:=Oo;have i1:¬((j:Int)<j):=Oo;have HG:=ay (k4 hV);go_wp2;go_ret2;refine⟨vj,?_,rl,hT.o.base s4,?_,bt f9.o hB.o⟩;rw[HG.o.2,<-hz.o];rfl;rw[HG.o.1,hE.o,i0.o]
theorem qAw w vo{o}(h:ITs w vt tl)(ho:IS w vo o)(hl:tl.length<=1000)(e9:o.length<=1000)(f7:∀t∈tl,TvJ t)(g9:YP tl o):
 Cl 58 #[vt,vo] w λe w'=>∃v,e=.returned (.tuple #[v,ai (if smJ tl o o.length then (viJ tl o o.length:Int) else -1)])/\Fz w.1.size (λW=>ISS W v (if smJ tl o o.length then lvJ tl o o.length else [])) w'/\Bl w w':=by
 obtain⟨i0,hi,l1,l2,l3⟩:=info_parts Tryz.infoInt;obtain⟨iS,hj,r4,r5,r6⟩:=info_parts Tryz.infoIS;have f8:=ay (Jh w vt vo tl o h ho hl e9 f7);have r7:Hh (∀p,(nxJ tl o p).length<=10000):=ay λp=>qHo f7 p;have l4:Hh (∀W vS vp p k,Bl w W->ISds W vS (tl.map (sdT o))->IS W vp p->p∈lvJ tl o k->k<o.length->Cl 74 #[vS,vo,vp] W λe w'=>∃g c,e=.returned (.slice (some (az g 0)) (nxJ tl o p).length c)/\w'.ownsRow W.1.size 3 1 (.slice (some (az g 0)) (nxJ tl o p).length c) (nxJ tl o p).length ((nxJ tl o p).map ai)/\Bl W w'):=ay λW vS vp p k hW hS hp hm hk=>by
  have v8:=jx p hm;refine qAv W vS vo vp (tl.map (sdT o)) o p hS (ho.below hW) hp Oo e9 (by rw[lM];exact hl) (λs hs=>?_) (qHn p hm) (qJk g9 Oo) (λs hs=>?_);obtain⟨t,ht,rfl⟩:=cC.1 hs;exact⟨uI o t,bM (Qz o t) (by have:=(f7 t ht).n;omega),bM (j7 _ _) e9⟩;obtain⟨t,ht,rfl⟩:=cC.1 hs;exact qJE Oo
 obtain⟨r8,ct,rfl,hc⟩:=h;obtain⟨ao,co,rfl,-⟩:=ho;have HC:Hh (∀W,Bl w W->∀j,j<tl.length->∃b oo,r8=some (az b oo)/\TabAt W b (oo+j*3) (tl.getD j qA)):=ay λW hW j hj=>by
  rcases hc with h0|⟨b,oo,rfl,h⟩;omega;exact⟨b,oo,rfl,(h j hj).below hW⟩
 have l5:Hh (∀j,j<tl.length->(tl.take (j+1)).any (λt=>decide (t.rows.length=0))=((tl.take j).any (λt=>decide (t.rows.length=0))||decide ((tl.getD j qA).rows.length=0))):=ay λj hj=>by
  rw[tA,gE hj,List.any_append,gD,gE hj];simp
 have l6:Hh ((tl.take tl.length).any (λt=>decide (t.rows.length=0))=xd tl):=ay (by rw[tL];rfl);have l7:Hh ((tl.take 0).any (λt=>decide (t.rows.length=0))=false):=ay rfl;obtain⟨EM,l8⟩:=Ex (λj=>(tl.take j).any (λt=>decide (t.rows.length=0)):NB);have d0:Hh (EM 0=false/\EM tl.length=xd tl/\∀j,j<tl.length->EM (j+1)=(EM j||decide ((tl.getD j qA).rows.length=0))):=ay (by rw[l8];exact⟨l7.o,l6.o,l5.o⟩);clear l8 l5 l6 l7;obtain⟨n,hn⟩:=Ex tl.length;rw[<-hn]at hl HC d0 f8 |-;clear hn hc f7 g9;obtain⟨no,d2⟩:=Ex o.length;rw[<-d2]at e9 l4 f8 |-;clear d2;obtain⟨AN,h8⟩:=Ex ((if smJ tl o no then (viJ tl o no:Int) else -1):Int);obtain⟨AL,h9⟩:=Ex ((if smJ tl o no then lvJ tl o no else []):LL);rw[<-h8,<-h9];change Hh _ at h8 h9;go_enter func58,ntmps58;go_upto_region 2 with (go_at_call 73;apply f8.o.mono;rintro e w1 ⟨vS,rfl,m1,m2⟩);have m3:=ay m1;change Hh _ at m2;obtain⟨aS,cS,rfl,-⟩:=m1;have r9:(tl.map (sdT o)).length=(tl.map (sdT o)).length:=rfl;generalize (tl.map (sdT o)).length=ns at *;clear f8 r9;obtain⟨W2,d3⟩:=Ex ((w1.alloc (.cells #[] 3)).alloc (.cells #[sZ w1.1.size 0 0 0] 24));have i5:Bl w1 W2:=by rw[d3];exact QC (QC (bJ _ _))
 have m4:Hh (Fz w.1.size (λW=>ISSn W (sZ (w1.1.size+1) 0 1 1) [[]]) W2):=ay λW' s3=>by
  refine⟨_,1,rfl,Or.inr ⟨w1.1.size+1,0,rfl,λj hj=>?_⟩⟩;obtain rfl:j=0:=by simpa using hj
  refine⟨(az w1.1.size 0),0,?_,⟨_,0,rfl,Or.inl rfl⟩⟩;have hsz:W2.1.size=w1.1.size+2:=by rw[d3];simp
  rw[bF (w:=W2) (a:=(az (w1.1.size+1) (0+0))) (s3 (w1.1.size+1) (O1 m2.o.size) Oo),d3,bE _ _ _ _ Ss];rfl
 have i6:=ay (bt m2.o i5);have m5:=ay (m3.o.below i5);clear i5 m3 m2;go_upto_region 3 with fail;rw[<-d3];clear d3;have m6:=ay λj=>qGE tl o j;have m7:Hh (xd tl=true->lvJ tl o 0=[]):=ay λh=>by unfold lvJ;rw[fE h]
 have m8:Hh (xd tl=false->lvJ tl o 0=[[]]):=ay λh=>by unfold lvJ;rw[h];rfl
 have m9:Hh (∀j,∀q∈lvJ tl o j,q.length=j):=ay λj q hq=>jx q hq;have i7:Hh (smJ tl o 0=true/\(∀j,smJ tl o (j+1)=(smJ tl o j&&decide ((lvJ tl o (j+1)).length<=10000)))/\(∀j k,j<k->¬(lvJ tl o (j+1)).length<=10000->smJ tl o k=false)):=ay ⟨rfl,λj=>YO tl o j,λj k h1 h2=>U6 h1 h2⟩;have i8:Hh (viJ tl o 0=0/\(∀j,viJ tl o (j+1)=viJ tl o j+(lvJ tl o (j+1)).length)/\∀j,smJ tl o j=true->viJ tl o j<=j*10000):=ay ⟨rfl,λj=>qAq tl o j,λj h=>qAr h⟩;go_upto_block 0 with fail;go_cut [7] (λv7 wx=>∃vl,vl=v7/\Hh (Fz w.1.size (λW=>ISSn W vl (lvJ tl o 0)) wx/\Bl W2 wx))
 case first=>
  go_wp2;go_loopw [7,23] (λv7 t wr=>∃(j:Nat) (vl:Value),j<=n/\t=ai j/\vl=v7/\Hh (vl=(if EM j then sn else sZ (w1.1.size+1) 0 1 1)/\Bl W2 wr)) (λ_ t _=>n-(intOf t).toNat);exact⟨0,_,nZ _,rfl,rfl,ay ⟨by rw[d0.o.1];rfl,bJ _ _⟩⟩;obtain⟨j,vl,v9,rfl,rfl,O⟩:=hrel;by_cases d4:j<n
  .have i1:(j:Int)<n:=Oo;obtain⟨b,oo,ea,v0,v1,v2,c0,c1,c2,hI⟩:=HC.o wr (bt i6.o O.o.2) j d4;subst ea;have HE:=ay (d0.o.2.2 j d4);obtain⟨a0,k0,e0,-⟩:=hI.vs;obtain⟨a1,k1,e1,-⟩:=hI.rows;obtain⟨a2,k2,e2,-⟩:=hI.ws;subst e0 e1 e2;clear hI;generalize (tl.getD j qA).rows.length=nr at *;generalize (tl.getD j qA).vs.length=n0 at *;generalize (tl.getD j qA).ws.length=n2 at *;obtain⟨W3,f9⟩:=Ex (wr.alloc (.cells #[.slice a0 n0 k0,.slice a1 nr k1,.slice a2 n2 k2] 58));have n3:Bl wr W3:=by rw[f9];exact(bJ _ _).alloc (nR _) _
   have d1:W3.cell? (az wr.1.size 1)=some (.slice a1 nr k1):=by rw[f9,bE _ _ _ _ rfl];rfl
   have g4:=ay (bt O.o.2 n3);have HV:=ay O.o.1;clear n3 O;go_upto_region 6 with fail;rw[<-f9];clear f9 c0 c1 c2;by_cases hz:nr=0
   .subst hz;go_wp2;go_roundw
    case rel=>first|exact⟨j+1,_,Oo,Gg,rfl,ay ⟨by rw[HE.o];simp,g4.o⟩⟩|((repeat apply Exists.intro);exact⟨⟨j+1,_,Oo,Gg,rfl,ay ⟨by rw[HE.o];simp,g4.o⟩⟩,rfl⟩)
    case measure=>simp[intOf];omega
   have q1:((nr:Int) == 0)=false:=Sy;have n4:Hh (EM (j+1)=EM j):=ay (by rw[HE.o,fC hz,Bool.or_false]);go_wp2;go_roundw
   case rel=>first|exact⟨j+1,_,Oo,Gg,rfl,ay ⟨by rw[n4.o];exact HV.o,g4.o⟩⟩|((repeat apply Exists.intro);exact⟨⟨j+1,_,Oo,Gg,rfl,ay ⟨by rw[n4.o];exact HV.o,g4.o⟩⟩,rfl⟩)
   case measure=>simp[intOf];omega
  obtain rfl:j=n:=Oo;have i1:¬(j:Int)<j:=Oo;have HF:Hh (Fz w.1.size (λW=>ISSn W vl (lvJ tl o 0)) wr/\Bl W2 wr):=ay ⟨by
   rw[O.o.1,d0.o.2.1];by_cases he:xd tl=true;rw[fE he,m7.o he];exact λ_ _=>⟨none,0,rfl,Or.inl rfl⟩;rw[fF he,m8.o (by simpa using he)];exact m4.o.below O.o.2,O.o.2⟩
  clear O;go_wp2;go_meet;exact⟨vl,rfl,HF⟩
 case rest=>
 obtain⟨w2,rfl,HL⟩:=hcut;have n5:=ay (bt i6.o HL.o.2);have s4:=ay (m5.o.below HL.o.2);have n6:=ay HL.o.1;clear HL i6 m5 m4 d0 m7 m8 HC;generalize wc=W4 at *;go_wp2;go_loopw [7,10,34] (λv7 v10 t wr=>∃(k vis:Nat) (vl:Value),k<=no/\t=ai k/\v10=ai vis/\vl=v7/\Hh (smJ tl o k=true/\vis=viJ tl o k/\Fz w.1.size (λW=>ISSn W vl (lvJ tl o k)) wr/\Bl W4 wr)) (λ_ _ t _=>no-(intOf t).toNat);exact⟨0,0,_,nZ _,rfl,rfl,rfl,ay ⟨i7.o.1,i8.o.1.symm,n6.o,bJ _ _⟩⟩;clear n6;obtain⟨k,vis,vl,hk,rfl,rfl,rfl,O⟩:=hrel;by_cases d4:k<no
 .have i1:(k:Int)<no:=Oo;obtain⟨a5,K,c7,a6⟩:=O.o;have w4:vis<=k*10000:=by rw[K];exact i8.o.2.2 k a5
  have n7:=ay a5;have n8:=ay K;have i9:=ay (bt n5.o a6);have n9:=ay a6;have s5:=ay (s4.o.below a6);have g5:=ay c7.self;obtain⟨al,cl,rfl,-⟩:=c7.self;have h5:=qEy a5;clear O a5 K a6 c7;obtain⟨L,hL⟩:=Ex (lvJ tl o k);have j0:Hh (∀i,i<L.length->L.getD i []∈lvJ tl o k):=ay λi hi=>by rw[<-hL,gD,gE hi];exact gM _
  have d5:Hh (lvJ tl o (k+1)=nxL (nxJ tl o) L L.length):=ay (by rw[m6.o,<-hL];unfold nxL;rw[tL]);have o3:Hh (∀i,(nxL (nxJ tl o) L i).length<=(lvJ tl o (k+1)).length):=ay λi=>by rw[m6.o,<-hL];exact qJH
  have o4:Hh (∀i,i<L.length->nxL (nxJ tl o) L (i+1)=nxL (nxJ tl o) L i++(nxJ tl o (L.getD i [])).map λv=>L.getD i []++[v]):=ay λi hi=>qGI hi;have j1:=ay λi hi=>m9.o k _ (j0.o i hi);rw[<-hL]at g5 h5 |-;clear hL;obtain⟨nl,j2⟩:=Ex L.length;have t7:=ay j2;rw[<-j2]at j0 d5 o4 j1 g5 h5 |-;have o5:Hh (∀W,Bl wr W->∀i,i<nl->∃b oo ad c,al=some (az b oo)/\W.cell? (az b (oo+i))=some (.slice (some ad) k c)/\IS W (.slice (some ad) k c) (L.getD i [])):=ay λW hW i hi=>by
   obtain⟨a',c',e,hh⟩:=g5.o;simp only[Value.slice.injEq]at e;obtain⟨rfl,-,-⟩:=e;rcases hh with h0|⟨b,oo,ea,hh⟩;omega;obtain⟨ad,c,h1,h2⟩:=hh i Oo;rw[j1.o i hi]at h1 h2;exact⟨b,oo,ad,c,ea,qGH hW h1,h2.below hW⟩
  clear j2 g5;obtain⟨W5,j3⟩:=Ex (wr.alloc (.cells #[] 24));have j4:Hh (Bl wr W5/\RQ W5 wr.1.size (sZ wr.1.size 0 0 0) [] []):=ay (by
   rw[j3];exact⟨aK,oM wr #[] 0 (nR _) Dd rfl,rfl,λi hi=>by simp at hi,λi j _ hj=>by simp at hj⟩)
  go_upto_region 13 with fail;rw[<-j3];clear j3;generalize wr=wo at *;go_wp2;go_loopw [11,39] (λv11 t wr=>∃(i:Nat) (vn:Value),i<=nl/\t=ai i/\vn=v11/\Hh (∃un,Bl wo wr/\RQ wr wo.1.size vn un (nxL (nxJ tl o) L i)/\(nxL (nxJ tl o) L i).length<=10000)) (λ_ t _=>nl-(intOf t).toNat);exact⟨0,_,nZ _,rfl,rfl,ay ⟨[],j4.o.1,j4.o.2,nZ _⟩⟩;clear j4;obtain⟨i,vn,w5,rfl,rfl,O⟩:=hrel;obtain⟨un,o6,o7,s6⟩:=O.o;have a7:=ay o6;have d6:=ay o7;clear O o6 o7;by_cases a9:i<nl
  .have i2:(i:Int)<nl:=Oo;obtain⟨b,oo,ad,c,ea,e0,d7⟩:=o5.o wo (bJ _ _) i a9;subst ea;have e1:=qGH a7.o e0;have o8:=d7.below a7.o;have h6:Hh (∀W,Bl wo W->IS W (.slice (some ad) k c) (L.getD i [])):=ay λW hW=>d7.below hW;clear e0 d7;have d8:=ay (l4.o wr _ _ (L.getD i []) k (bt i9.o a7.o) (s5.o.below a7.o) o8 (j0.o i a9) d4);have b1:=ay (o4.o i a9);have o9:=ay (j1.o i a9);have j5:=r7.o (L.getD i []);obtain⟨q,hq⟩:=Ex (L.getD i []);rw[<-hq]at d8 h6 b1 o9 j5;clear hq o8;obtain⟨xs,p1⟩:=Ex (nxJ tl o q);rw[<-p1]at d8 b1 j5;clear p1;obtain⟨nx,j6⟩:=Ex xs.length;have c8:=ay j6;rw[<-j6]at d8 j5;clear j6;generalize wr=wm at *;go_upto_block 6 with (go_at_call 74;apply d8.o.mono;rintro e w6 ⟨gx,cx,rfl,p2,k3⟩);have p3:=ay p2;have s7:=ay (bt a7.o k3);have p4:=ay (d6.o.below k3);clear p2 k3 d8 e1 d6;go_wp2;go_loopw [11,48] (λv11 t wr=>∃(m:Nat) (c9:Value),m<=nx/\t=ai m/\c9=v11/\Hh (∃a8,Bl wo wr/\RQ wr wo.1.size c9 a8 (nxL (nxJ tl o) L i++mxL q xs m)/\wr.ownsRow wm.1.size 3 1 (sZ gx 0 nx cx) nx (xs.map ai))) (λ_ t _=>nx-(intOf t).toNat);exact⟨0,vn,nZ _,rfl,rfl,ay ⟨un,s7.o,by show RQ _ _ _ _ (_++[]);rw[dU];exact p4.o,p3.o⟩⟩;clear p3 p4;obtain⟨m,c9,s8,rfl,rfl,O⟩:=hrel;obtain⟨a8,p5,p6,p7⟩:=O.o;have d9:=ay p5;have e3:=ay p6;have k4:=ay p7;clear O p5 p6 p7;have hlen:(nxL (nxJ tl o) L i++mxL q xs m).length=(nxL (nxJ tl o) L i).length+m:=by rw[lA,qHx (by rw[<-c8.o];exact s8)]
   by_cases e4:m<nx
   .have i3:(m:Int)<nx:=Oo;have w7:wr.cell? (az gx m)=some (ai (xs.getD m 0)):=by
     rw[k4.o.cellAt m Oo,bK,gE (by rw[<-c8.o];exact e4),gD,gE (by rw[<-c8.o];exact e4)];rfl
    have p8:=h6.o _ (bt d9.o ((bJ _ wr).alloc (nR _) (.cells #[] 3)));have s9:=ay (qJg p8);have e5:(wr.alloc (.cells #[] 3)).ownsRow wr.1.size 3 1 (sZ wr.1.size 0 0 0) 0 []:=oM wr #[] 0 (nR _) Dd rfl;have p9:=ay e5;have t0:=d9.o.size;have q0:=o9.o;have t1:=ay (qGJ (q:=q) (xs:=xs) (m:=m) (by rw[<-c8.o];exact e4));have hkb:k<=1000:=Oo;generalize xs.getD m 0=xv at *;clear p8 e5;have h7:=ay q0;clear q0;go_wp2_with (first
     |(at_builtin;refine wpList_append_own _ rfl _ _ 24 rfl wr.1.size 3 i0 (ai 0) 1 8 underlying24 hi l1 l2 l3 rfl Dd (sZ wr.1.size 0 0 0) 0 [] rfl p9.o ad k c (q.map ai) rfl (by rw[lM,h7.o];omega) s9.o (λu hu=>by obtain⟨x,_,rfl⟩:=cC.1 hu;rfl) Um Oo Ss ?_;intro v55 w8 b7 a3 _;have e6:=(by simpa using b7);have e7:=((bJ _ wr).alloc (nR _) (.cells #[] 3)).grown a3 Ss (λk hk=>(p9.o.lt k hk).1);have q2:=e7.size;clear b7 a3)
     |(at_builtin;refine wpList_append_lies _ rfl _ _ 24 rfl wr.1.size 3 i0 (ai 0) 1 8 underlying24 hi l1 l2 l3 rfl Dd v55 _ _ rfl (e6.alloc _) (az _ 0) 1 1 [ai xv] rfl rfl (qH _ _ _) (λu hu=>by simp at hu;subst hu;rfl) Dd Um Oo Sy _ rfl ?_;intro g6 g7 q3 V a4 k5 k6;have M:=(e7.alloc q2 _).grown a4 Sy (λk hk=>(e6.lt k hk).1);have t8:=M.size;have b8:q3.ownsRow wo.1.size 24 1 c9 ((nxL (nxJ tl o) L i).length+m) a8:=by { have:=(e3.o.below M).own;rw[hlen]at this;exact this })
     |(at_builtin;refine wpList_append_lies _ rfl _ _ 23 rfl wo.1.size 24 iS sn 1 24 underlying23 hj r4 r5 r6 rfl Dd c9 _ a8 rfl (b8.alloc _) (az _ 0) 1 1 [sZ g6 0 (k+1) g7] rfl rfl (qH _ _ _) (λu hu=>by simp at hu;subst hu;rfl) Dd Um Oo Sy _ rfl ?_;intro t2 t3 k7 b9 I k8 k9)
     |fail)
    have HN:Hh (∃q4,Bl wo k7/\RQ k7 wo.1.size (sZ t2 0 ((nxL (nxJ tl o) L i).length+m+1) t3) q4 (nxL (nxJ tl o) L i++mxL q xs (m+1))/\k7.ownsRow wm.1.size 3 1 (sZ gx 0 nx cx) nx (xs.map ai)):=ay (by
     have q5:=e3.o.below M;have q6:q3.ownsRow wo.1.size 3 1 (sZ g6 0 (k+1) g7) (q++[xv]).length ((q++[xv]).map ai):=by
      rw[lA,lS,h7.o,mA];exact qE V t0
     have hap:∀j,j<(nxL (nxJ tl o) L i++mxL q xs m).length->∀g,(a8.getD j undef).ownBlock=some g->(sZ g6 0 (k+1) g7).ownBlock≠some g:=λj hj g h1 h2=>by
      have a1:=((e3.o.each j hj).lt g h1).2;have a2:=(V.lt g h2).1;omega
     refine⟨a8++[sZ g6 0 (k+1) g7],(QC (bt d9.o M)).grown I Sy (λq hq=>(b8.lt q hq).1),?_,?_⟩;rw[t1.o,<-dN];have:=q5.step q6 hap (by rw[hlen];exact b9) I;exact this;have e8:=qB k4.o M;refine qD e8 λg hg=>?_;obtain⟨cur,q7⟩:=qK e8 hg;exact zD I (e8.lt g hg).2 (own_ne b8 ⟨cur,q7⟩ Dd))
    clear b9 I k8 k9 V a4 k5 k6 b8 M e7 e6;go_roundw;exact⟨m+1,_,Oo,Gg,rfl,HN⟩;exact Im
   obtain rfl:m=nx:=Oo;have i3:¬((m:Int)<m):=Oo;have g8:Hh (RQ wr wo.1.size c9 a8 (nxL (nxJ tl o) L (i+1))):=ay (by
    rw[b1.o];have:=e3.o;unfold mxL at this;rw[c8.o,tL]at this;exact this)
   have t4:=ay (o3.o (i+1));have l0:(nxL (nxJ tl o) L (i+1)).length=(nxL (nxJ tl o) L i).length+m:=by rw[b1.o,lA,lM,<-c8.o]
   obtain⟨av,cv,ev,-,-⟩:=g8.o.rs.sl;rw[l0]at ev;subst ev;clear e3 k4 hlen;by_cases t9:(nxL (nxJ tl o) L i).length+m<=10000
   .have q9:¬((10000:Int)<(((nxL (nxJ tl o) L i).length+m:Nat):Int)):=Oo;have HN:Hh (∃un,Bl wo wr/\RQ wr wo.1.size (.slice av ((nxL (nxJ tl o) L i).length+m) cv) un (nxL (nxJ tl o) L (i+1))/\(nxL (nxJ tl o) L (i+1)).length<=10000):=ay ⟨_,d9.o,g8.o,Oo⟩;clear g8 l0;generalize (nxL (nxJ tl o) L i).length+m=tot at *;go_wp2;go_roundw;exact⟨i+1,_,Oo,Gg,rfl,HN⟩;exact Im
   have q9:((10000:Int)<(((nxL (nxJ tl o) L i).length+m:Nat):Int)):=Oo;have d2:=i7.o.2.2 k no d4 (O1 t4.o);have q8:=ay d2;clear l0 g8 d2;generalize (nxL (nxJ tl o) L i).length+m=tot at *;go_wp2;go_ret2;exact⟨_,by rw[h8.o,q8.o];rfl,by rw[h9.o,q8.o];exact λ_ _=>⟨_,0,rfl,Or.inl rfl⟩,bt i9.o (QC d9.o)⟩
  obtain rfl:i=nl:=Oo;have i2:¬((i:Int)<i):=Oo;obtain⟨av,cv,ev,-,-⟩:=d6.o.rs.sl;subst ev;have t5:Hh (Fz w.1.size (λW=>ISSn W (.slice av (nxL (nxJ tl o) L i).length cv) (lvJ tl o (k+1))) wr):=ay (by
   rw[d5.o];exact(d6.o.fz.mono i9.o.size).imp λW hW=>hW.issn λj hj=>by
    have hm:(nxL (nxJ tl o) L i).getD j []∈lvJ tl o (k+1):=by rw[d5.o,gD,gE hj];exact gM _
    have:=m9.o (k+1) _ hm;omega)
  have r3:Hh (smJ tl o (k+1)=true/\vis+(nxL (nxJ tl o) L i).length=viJ tl o (k+1)):=ay ⟨by rw[i7.o.2.1,n7.o,dG];exact fD (by rw[d5.o];exact s6),by rw[i8.o.2.1,n8.o,d5.o]⟩;have t6:=ay (bt n9.o a7.o);clear d6 a7 o5;generalize (nxL (nxJ tl o) L i).length=tot at *;have v6:vis+tot<=100000000:=Oo;go_wp2;go_roundw;exact⟨k+1,vis+tot,_,Oo,Gg,by first|rfl|go_num|(rw[Int.natCast_add]),rfl,ay ⟨r3.o.1,r3.o.2,t5.o,t6.o⟩⟩;exact Im
 obtain rfl:k=no:=Oo;have i1:¬((k:Int)<k):=Oo;obtain⟨a5,K,c7,a6⟩:=O.o;have HF:Hh (smJ tl o k=true/\vis=viJ tl o k/\Fz w.1.size (λW=>ISS W vl (lvJ tl o k)) wr/\Bl w wr):=ay ⟨a5,K,c7.imp λ_ h=>h.iss,bt n5.o a6⟩;clear O a5 K c7 a6;go_wp2;go_ret2;obtain⟨h1,h2,h3,h4⟩:=HF.o;exact⟨_,by rw[h8.o,h1,fE rfl,<-h2];rfl,by rw[h9.o,h1,fE rfl];exact h3,h4⟩
structure ShTb(lo hi:Nat)(W:World)(g i:Nat)(t:TbV):Prop where
 vs:∃c,W.cell? (az g (i*3))=some (sZ c 0 t.vs.length t.vs.length)/\ShI lo hi W c t.vs.length
 rows:∃G,W.cell? (az g (i*3+1))=some (sZ G 0 t.rows.length t.rows.length)/\ShSS lo hi W G t.rows.length (λj=>(t.rows.getD j []).length)
 ws:∃c,W.cell? (az g (i*3+2))=some (sZ c 0 t.ws.length t.ws.length)/\ShI lo hi W c t.ws.length
theorem ShTb.kp{t}(h:ShTb lo hi W g i t)(k:Mk lo hi W W'):ShTb lo hi W' g i t:=by
 obtain⟨c0,I,K⟩:=h.vs;obtain⟨G,M,O⟩:=h.rows;obtain⟨c2,V,h2⟩:=h.ws;exact⟨⟨c0,k.sl _ _ _ _ _ I,K.kp k⟩,⟨G,k.sl _ _ _ _ _ M,O.kp k⟩,⟨c2,k.sl _ _ _ _ _ V,h2.kp k⟩⟩
def qJN(lo hi:Nat)(W:World)(g:Nat)(tl:List TbV):Prop:=∀i,i<tl.length->ShTb lo hi W g i (tl.getD i qA)
theorem HalfT.sh(h:HalfT W g tl.length tl.length tl):qJN g W.1.size W g tl:=λi hi=>by
 obtain⟨g0,g1,g2,f,c0,c1,c2,ho⟩:=h.copy i hi;have K:=ho.lt0;have M:=ho.lt1;have O:=ho.lt3;refine⟨⟨g0,c0,ho.vr.sh Oo ho.vr.lt⟩,⟨g1,c1,λj I=>?_⟩,⟨g2,c2,ho.wt.sh Oo ho.wt.lt⟩⟩;have e:=ho.rw.cell j I;rw[fE I]at e;have V:=ho.rw.gt j I;exact⟨f j,e,(ho.rw.own j I).sh Oo (ho.rw.own j I).lt⟩
theorem HalfT.its(h:HalfT W g tl.length tl.length tl):ITs W (sZ g 0 tl.length c) tl:=by
 refine⟨_,_,rfl,Or.inr ⟨g,0,rfl,λj I=>?_⟩⟩;obtain⟨g0,g1,g2,f,c0,c1,c2,ho⟩:=h.copy j I;rw[cU];exact⟨_,_,_,c0,c1,c2,ho.it⟩
theorem Jl cap(h:qJN lo hi w g tl)(hn:tl.length+xf tl<=1048576):
 Cl 15 #[sZ g 0 tl.length cap,ai 1] w λe w'=>∃z:Nat,e=.returned (ai (z:Int))/\z<=1048577/\Mk lo hi w w':=by
 have HS:Hh (∀wr,Mk lo hi w wr->∀i,i<tl.length->ShTb lo hi wr g i (tl.getD i qA)):=ay λwr M i hi=>(h i hi).kp M;have a6:Hh (∀j,j<tl.length->xf (tl.take (j+1))=xf (tl.take j)+szB (tl.getD j qA)):=ay λj hj=>by
  unfold xf;rw[tA,gE hj,mA,List.sum_append,gD,gE hj];simp
 have O:Hh (∀j,j<=tl.length->xf (tl.take j)<=xf tl):=ay λj _=>by
  have:xf tl=xf (tl.take j)+xf (tl.drop j):=by
   unfold xf;rw[<-List.sum_append,<-mA,tD]
  omega
 have HZ:Hh (∀t:TbV,szB t=t.vs.length+(t.rows.length+uJ (λj=>(t.rows.getD j []).length) t.rows.length)+t.ws.length):=ay λt=>by unfold szB;rw[YS t.rows t.rows.length (nR _)]
 obtain⟨n,a7⟩:=Ex tl.length;rw[<-a7]at HS a6 O hn |-;clear a7 h;go_enter func15,ntmps15;go_wp2;go_loopw [1,5] (λu t wr=>∃(j c:Nat),j<=n/\t=ai j/\u=ai (c:Int)/\c<=1+xf (tl.take j)/\Hh (Mk lo hi w wr)) (λ_ t _=>n-(intOf t).toNat);exact⟨0,1,nZ _,rfl,rfl,Oo,ay (Mk.refl _ _ _)⟩;obtain⟨j,c,hj,rfl,rfl,hc,HM⟩:=hrel;have hsj:=O j hj;by_cases V:j<n
 .have i1:(j:Int)<n:=Oo;have hS:=HS _ HM j V;have hsu:=a6 j V;have b9:=O (j+1) V;have hz:=HZ (tl.getD j qA);obtain⟨b0,c0,s0⟩:=hS.vs;have a3:Hh (∀W,Mk lo hi wr W->ShTb lo hi W g j (tl.getD j qA)):=ay λW M=>hS.kp M;generalize tl.getD j qA=tb at *;have K0:=ay (yY _ _ tb.vs.length c s0 Oo Oo);obtain⟨L1,a8⟩:=Ex (c+tb.vs.length);obtain⟨L2,a9⟩:=Ex (L1+uJ (λj=>(tb.rows.getD j []).length) tb.rows.length);obtain⟨L3,b1⟩:=Ex (L2+tb.ws.length);rw[<-a8]at K0;have KR:Hh (∀W,Mk lo hi wr W->∃G,aC W g (j*3+1) (sZ G 0 tb.rows.length tb.rows.length)/\Cl 18 #[sZ G 0 tb.rows.length tb.rows.length,ai (L1:Int)] W λe w'=>e=.returned (ai (L2:Int))/\Mk lo hi W w'):=ay λW M=>by
   obtain⟨G,h1,h2⟩:=(a3 W M).rows;refine⟨G,h1,?_⟩;have:=Zu W G tb.rows.length L1 h2 Oo Oo Oo;rw[<-a9]at this;exact this
  have KW:Hh (∀W,Mk lo hi wr W->∃G,aC W g (j*3+2) (sZ G 0 tb.ws.length tb.ws.length)/\Cl 17 #[sZ G 0 tb.ws.length tb.ws.length,ai (L2:Int)] W λe w'=>e=.returned (ai (L3:Int))/\Mk lo hi W w'):=ay λW M=>by
   obtain⟨G,h1,h2⟩:=(a3 W M).ws;refine⟨G,h1,?_⟩;have:=yY W G tb.ws.length L2 h2 Oo Oo;rw[<-b1]at this;exact this
  have b7:L3<=1+xf (tl.take (j+1)):=Oo;clear s0 hS a8 a9 b1 hz a3;generalize tb.vs.length=n0,tb.rows.length=nr,tb.ws.length=n2 at *;go_wp2_with (first
   |(go_at_call 17;apply K2.mn;intro w4 I;have b8:=ay (HM.o.trans (a4.trans I)))
   |(go_at_call 18;apply K1.mn;intro w3 K;have a4:=a5.trans K;obtain⟨G2,d2,K2⟩:=KW _ a4)
   |(go_at_call 17;apply K0.o.mn;intro w2 a5;obtain⟨G1,d1,K1⟩:=KR _ a5)
   |fail)
  clear a5 a4 K I K1 K2 K0 KR KW;go_roundw;exact⟨j+1,L3,Oo,Gg,rfl,b7,b8⟩;exact Im
 obtain rfl:j=n:=Oo;have i1:¬((j:Int)<j):=Oo;go_wp2;go_ret;exact⟨c,rfl,Oo,HM⟩
theorem qB9 w(cap k:Nat)(h:ShI lo hi w g (n*2))(hn:n<=1048576)(hk:k<=1099511627776):
 aF 35 #[sZ g 0 n cap,ai (k:Int)] w (ai ((k+n*2:Nat):Int)) λw'=>Mk lo hi w w':=by
 change Hh _ at h;go_enter func35,ntmps35;go_wp2;go_loopw [1,5] (λu t wr=>∃j:Nat,j<=n/\t=ai j/\u=ai ((k+j*2:Nat):Int)/\Hh (Mk lo hi w wr)) (λ_ t _=>n-(intOf t).toNat);exact⟨0,nZ _,rfl,rfl,ay (Mk.refl _ _ _)⟩;obtain⟨j,hj,rfl,rfl,K⟩:=hrel;by_cases O:j<n
 .have i1:(j:Int)<n:=Oo;have I:=h.o.kp K;obtain⟨x,c2⟩:=I.cell (j*2) Oo;obtain⟨y,c3⟩:=I.cell (j*2+1) Oo;have f2:=I.free (j*2) Oo;have f3:=I.free (j*2+1) Oo;have V:Hh (∀a b:Int,Mk lo hi w ((sC wr g (j*2) (ai a)).setCell (az g (j*2+1)) (ai b))):=ay λa b=>(K.o.trans (Mk.setI c2 I.lo I.hi)).trans (Mk.setI ((bC _ _ _ _ Nq).trans c3) I.lo I.hi);clear I K;go_wp2;go_roundw;exact⟨j+1,Oo,Gg,Gg,ay (V.o _ _)⟩;exact Im
 obtain rfl:j=n:=Oo;have i1:¬((j:Int)<j):=Oo;go_wp2;go_ret;first|exact⟨rfl,K.o⟩|exact K.o
structure ShPl(lo hi:Nat)(W:World)(g0 g1 g2 g3:Nat)(bs:LL)(np nh nw:Nat):Prop where
 b:ShSS lo hi W g0 bs.length (λj=>(bs.getD j []).length)
 p:ShI lo hi W g1 np
 h:ShI lo hi W g2 nh
 d:ShI lo hi W g3 (nw*2)
theorem ShPl.kp(h:ShPl lo hi W g0 g1 g2 g3 bs np nh nw)(k:Mk lo hi W W'):ShPl lo hi W' g0 g1 g2 g3 bs np nh nw:=⟨h.b.kp k,h.p.kp k,h.h.kp k,h.d.kp k⟩
theorem qCA(k:Nat)c0 c1 c2 c3 x y(h:ShPl lo hi w g0 g1 g2 g3 bs np nh nw)(hb:tot bs bs.length<=1048576)(hp:np<=1048576)(a3:nh<=1048576)(hw:nw<=1048576)(hk:k<=10000000):
 Cl 16 #[.agg #[sZ g0 0 bs.length c0,sZ g1 0 np c1,sZ g2 0 nh c2,sZ g3 0 nw c3,ai x,ai y],ai (k:Int)] w λe w'=>∃z:Nat,e=.returned (ai (z:Int))/\z<=99000000/\Mk lo hi w w':=by
 have a4:=YS _ bs.length (nR _);have hsz:bs.length<=1048576:=by unfold tot at hb;omega
 obtain⟨K,I⟩:=Ex (w.alloc (.cells #[sZ g0 0 bs.length c0,sZ g1 0 np c1,sZ g2 0 nh c2,sZ g3 0 nw c3,ai x,ai y] 38));have O:Bl w K:=by rw[I];exact(bJ _ _).alloc (nR _) _
 have V:Hh (Mk lo hi w K):=ay (Mk.of_below O);have HS:Hh (∀W,Mk lo hi K W->ShPl lo hi W g0 g1 g2 g3 bs np nh nw):=ay λW M=>(h.kp V).kp M;have q0:K.cell? (az w.1.size 0)=some (sZ g0 0 bs.length c0):=by rw[I,bE _ _ _ _ rfl];rfl
 have q1:K.cell? (az w.1.size 1)=some (sZ g1 0 np c1):=by rw[I,bE _ _ _ _ rfl];rfl
 have q2:K.cell? (az w.1.size 2)=some (sZ g2 0 nh c2):=by rw[I,bE _ _ _ _ rfl];rfl
 have q3:K.cell? (az w.1.size 3)=some (sZ g3 0 nw c3):=by rw[I,bE _ _ _ _ rfl];rfl
 obtain⟨L,hL⟩:=Ex (uJ (λj=>(bs.getD j []).length) bs.length);have K0:=ay (Zu K _ c0 k (HS K (Mk.refl _ _ _)).b hsz Oo Oo);rw[<-hL]at K0;have a8:L<=1048576:=Oo;have K1:=ay λW M=>yY W _ c1 (k+L) (HS W M).p hp Oo;have K2:=ay λW M=>yY W _ c2 (k+L+np) (HS W M).h a3 Oo;have K3:=ay λW M=>qB9 W c3 (k+L+np+nh) (HS W M).d hw Oo;clear HS h O a4 hL;generalize bs.length=nb at *;go_enter func16,ntmps16;go_upto_region 1 with fail;rw[<-I];clear I;go_wp2_with fail;apply K0.o.mono;rintro e w2 ⟨rfl,m2⟩;have r1:=m2.sl _ _ _ _ _ q1;go_wp2_with fail;apply (K1.o _ m2).mono;rintro e w3 ⟨rfl,a5⟩;have m3:=m2.trans a5;have r2:=m3.sl _ _ _ _ _ q2;go_wp2_with fail;apply (K2.o _ m3).mono;rintro e w4 ⟨rfl,a6⟩;have m4:=m3.trans a6;have r3:=m4.sl _ _ _ _ _ q3;go_wp2_with fail;apply (K3.o _ m4).mono;rintro e w5 ⟨rfl,a7⟩;have m5:=m4.trans a7;go_wp2;go_ret;exact⟨k+L+np+nh+nw*2,by first|rfl|(simp;done)|(congr;omega),Oo,V.o.trans m5⟩
theorem qCW:∀{l:LN} {x:Nat},x∈l->x<=l.sum
 |y::l,x,h=>by
  rw[List.sum_cons];rcases cH.1 h with rfl|I;omega;have:=qCW I;omega
theorem qHA(h:tl.length+xf tl<=1048576):∀t∈tl,TvS t:=λt I=>by
 have K:szB t<=xf tl:=qCW (cC.2 ⟨t,I,rfl⟩);unfold szB at K;have M:t.rows.length<=tot t.rows t.rows.length:=by unfold tot;omega
 exact⟨Oo,⟨Oo,λj=>O1 (Xt t.rows j)⟩,Oo⟩
theorem PX.frG{p b}(h:PX ty a p v0 v1 v2 v3 x y)(I:Fr lo hi a b)(K:hi<=p):PX ty b p v0 v1 v2 v3 x y:=⟨(I.block p h.lt (Or.inr K)).trans h.blk⟩
theorem ShI.kpA(h:ShI lo hi W g n)(k:Mk I K W W'):ShI lo hi W' g n:=
 ⟨h.lo,h.hi,bN h.lt k.fr.size,λj M=>by obtain⟨x,e⟩:=h.cell j M;exact k.num _ _ _ e,λj M=>k.froz _ _ h.lt (h.free j M)⟩
theorem ShPl.kpA(h:ShPl lo hi W g0 g1 g2 g3 bs np nh nw)(k:Mk I K W W'):ShPl lo hi W' g0 g1 g2 g3 bs np nh nw:=
 ⟨λj M=>by obtain⟨c,e,O⟩:=h.b j M;exact⟨c,k.sl _ _ _ _ _ e,O.kpA k⟩,h.p.kpA k,h.h.kpA k,h.d.kpA k⟩
structure Bx3(ty:TypeId)(W:World)(p:Nat)(v0 v1 v2:Value):Prop where
 blk:W.1[p]?=some (.cells #[v0,v1,v2] ty (0,0))
section
variable {ty:TypeId} {W W':World} {p:Nat} {v0 v1 v2:Value}
theorem Bx3.lt(h:Bx3 ty W p v0 v1 v2):p<W.1.size:=by
 rcases dL p W.1.size with I|I;exact I;have:=h.blk;rw[dO I]at this;cases this
theorem Bx3.below(h:Bx3 ty W p v0 v1 v2)(hb:Bl W W'):Bx3 ty W' p v0 v1 v2:=⟨(hb.block p h.lt).trans h.blk⟩
theorem Bx3.c0(h:Bx3 ty W p v0 v1 v2):W.cell? (az p 0)=some v0:=by rw[fA _ _ _ _ _ _ h.blk];rfl
theorem Bx3.c1(h:Bx3 ty W p v0 v1 v2):W.cell? (az p 1)=some v1:=by rw[fA _ _ _ _ _ _ h.blk];rfl
theorem Bx3.c2(h:Bx3 ty W p v0 v1 v2):W.cell? (az p 2)=some v2:=by rw[fA _ _ _ _ _ _ h.blk];rfl
theorem Bx3.free(h:Bx3 ty W p v0 v1 v2)j:W.frozen? (az p j)=false:=by unfold World.frozen?;rw[h.blk];simp
theorem Bx3.typ(h:Bx3 ty W p v0 v1 v2):∃cur,W.1[p]?=some (.cells cur ty (0,0)):=⟨_,h.blk⟩
theorem Bx3.made ty(w:World)v0 v1 v2:Bx3 ty (w.alloc (.cells #[v0,v1,v2] ty)) w.1.size v0 v1 v2:=⟨dZ _ _⟩
end
theorem TWr.setX{p y}(h:TWr W B t)(I:∃cur,W.1[p]?=some (.cells cur ty (0,0)))(K:3≠ty)(M:24≠ty):TWr (W.setCell (az p off) y) B t:=
 ⟨qI h.o0 I K,⟨qI h.rq.own I M,h.rq.len,λi hi=>qI (h.rq.each i hi) I K,h.rq.ap⟩,qI h.o2 I K,h.a02,h.a0,h.a2⟩
theorem TBs.setX{p y tl}(h:TBs W B v tl)(I:∃cur,W.1[p]?=some (.cells cur ty (0,0)))(K:3≠ty)(M:24≠ty)(O:58≠ty):TBs (W.setCell (az p off) y) B v tl:=
 ⟨qI h.own I O,λt V=>TWr.setX (h.each t V) I K M,h.ap⟩
theorem qC0{x y t}(K:k=X.1.size)(hb:Below (X.alloc (.cells #[x,y,z] t)).1.size (X.alloc (.cells #[x,y,z] t)) W):∀j u,[x,y,z][j]?=some u->W.cell? (((az k 0):Addr).add j)=some u:=λj u M=>by
 subst K;have I:=uT X x y z t j u M;exact(hb.cell (bL _ _ I)).trans I
structure Bx1(ty:TypeId)(W:World)(p:Nat)(v:Value):Prop where
 blk:W.1[p]?=some (.cells #[v] ty (0,0))
section
variable {ty:TypeId} {W W':World} {p:Nat} {v:Value}
theorem Bx1.lt(h:Bx1 ty W p v):p<W.1.size:=by
 rcases dL p W.1.size with I|I;exact I;have:=h.blk;rw[dO I]at this;cases this
theorem Bx1.below(h:Bx1 ty W p v)(hb:Bl W W'):Bx1 ty W' p v:=⟨(hb.block p h.lt).trans h.blk⟩
theorem Bx1.made ty(w:World)v(I:k=w.1.size):Bx1 ty (w.alloc (.cells #[v] ty)) k v:=⟨by rw[I];exact dZ _ _⟩
theorem Bx1.news(h:Bx1 ty W p v):∀j u,[v][j]?=some u->W.cell? (((az p 0):Addr).add j)=some u:=λj u I=>by
 match j,I with
 |0,I=>
  rw[show((az p 0):Addr).add 0=(az p 0)by unfold Addr.add;simp,fA _ _ _ _ _ _ h.blk];simpa using I
 |j+1,I=>simp at I
theorem Bx1.gr(h:Bx1 ty W p v)(ho:W.ownsRow B e s u n xs)(I:e≠ty)(K:W.grownBy Y u.ownBlock):Bx1 ty Y p v:=⟨(K.block p h.lt (own_ne ho ⟨_,h.blk⟩ I)).trans h.blk⟩
theorem Bx3.gr(h:Bx3 ty W p v0 v1 v2)(ho:W.ownsRow B e s u n xs)(I:e≠ty)(K:W.grownBy Y u.ownBlock):Bx3 ty Y p v0 v1 v2:=⟨(K.block p h.lt (own_ne ho ⟨_,h.blk⟩ I)).trans h.blk⟩
theorem PX.gr(h:PX ty W p v0 v1 v2 v3 x y)(ho:W.ownsRow B e s u n xs)(I:e≠ty)(K:W.grownBy Y u.ownBlock):PX ty Y p v0 v1 v2 v3 x y:=⟨(K.block p h.lt (own_ne ho ⟨_,h.blk⟩ I)).trans h.blk⟩
end
structure T14(w0 wb:World)(vb:Value)(rl:List TbR)(t:TbR)(p r:Nat)(v0 v1 v2 v3:Value)(x y:Int)(W:World)(v:Value):Prop where
 tb:TBs W w0.1.size v (rl++[t])
 px:PX 38 W p v0 v1 v2 v3 x y
 bx:Bx3 93 W r sn sn sn
 bel:Bl w0 W
 fr:∀k,k<wb.1.size->vb.ownBlock≠some k->W.1[k]?=wb.1[k]?
theorem qBH{K o p}(hT:TBs M w0.1.size vb rl)(hw:Bl w0 M)(V:Bl wb M)(hp:PX 38 M p v0 v1 v2 v3 x y)(hx:Bx3 93 M r sn sn sn)(hY:Bl M Y)(ht:TWr Y M.1.size t)(hg:(Y.alloc o).grownBy K vb.ownBlock)(a3:K.ownsRow w0.1.size 58 3 O (rl.length+1) (rl.flatMap tcs++[t.v0,t.v1,t.v2])):T14 w0 wb vb rl t p r v0 v1 v2 v3 x y K O:=by
 have hO:=(qB hT.own hY).alloc o;have I:=x8 hY o;refine⟨hT.row hw.size Y t o K O hY ht hg a3,(hp.below I).gr hO Dd hg,(hx.below I).gr hO Dd hg,(bt hw I).grown hg (bM hw.size I.size) λk hk=>(hO.lt k hk).1,λk hk a4=>?_⟩;have h1:=V.size;have h2:=I.size;rw[hg.block k Oo (λe=>a4 e.symm),I.block k Oo,V.block k hk]
structure TreE(w0 wb:World)(vb:Value)(rl:List TbR)(tl:List TbV)(ps hs:LI)(W:World)(x0 x1 x2:Value):Prop where
 tb:∃rl',TBs W w0.1.size x0 rl'/\rl'.map tvB=rl.map tvB++[ZA tl]
 pa:W.ownsRow w0.1.size 3 1 x1 (ps.length+1) ((orT rl.length ps++[(rl.length:Int)]).map ai)
 ho:W.ownsRow w0.1.size 3 1 x2 hs.length ((orT rl.length hs).map ai)
 bel:Bl w0 W
 fr:∀k,k<wb.1.size->vb.ownBlock≠some k->W.1[k]?=wb.1[k]?
theorem qH8{K p}(h:T14 w0 wb vb rl t p r v0 v1 v2 v3 x y K V)(ht:ZA tl=tvB t)(hq:Bl K M)(hP:M.ownsRow K.1.size 3 1 x1 (ps.length+1) ((orT rl.length ps).map ai++[ai (rl.length:Int)]))(hH:M.ownsRow K.1.size 3 1 x2 hs.length ((orT rl.length hs).map ai))(hr:w0.1.size<=r)(a4:wb.1.size<=r/\wb.1.size<=p):
 TreE w0 wb vb rl tl ps hs (((M.setCell (az r 0) y0).setCell (az r 1) y1).setCell (az r 2) y2) V x1 x2:=by
 have hX:=(h.bx.below hq).typ;have hX1:=qU (o:=0) (v:=y0) hX;have O:=qU (o:=1) (v:=y1) hX1;have hs:=h.bel.size;refine⟨⟨rl++[t],(((h.tb.below hq).setX hX Dd Dd Dd).setX hX1 Dd Dd Dd).setX O Dd Dd Dd,by rw[mA,ht];rfl⟩,?_,?_,(((bt h.bel hq).setCell hr _).setCell hr _).setCell hr _,λk hk a3=>?_⟩;rw[mA];exact qI (qI (qI (qE hP hs) hX Dd) hX1 Dd) O Dd;exact qI (qI (qI (qE hH hs) hX Dd) hX1 Dd) O Dd;have I:k≠r:=Oo;have a5:=h.px.lt;rw[bD _ _ _ _ I,bD _ _ _ _ I,bD _ _ _ _ I,hq.block k Oo];exact h.fr k hk a3
theorem qBI:∀{rl:List TbR} {q:Nat} {t:TbR},q<rl.length->(((rl.flatMap tcs).set (q*3) t.v0).set (q*3+1) t.v1).set (q*3+2) t.v2=(rl.set q t).flatMap tcs
 |r::rl,0,t,_=>by
  show((([r.v0,r.v1,r.v2]++rl.flatMap tcs).set 0 t.v0).set 1 t.v1).set 2 t.v2=[t.v0,t.v1,t.v2]++rl.flatMap tcs;rfl
 |r::rl,q+1,t,h=>by
  have I:=qBI (rl:=rl) (q:=q) (t:=t) (by simpa using h);show((([r.v0,r.v1,r.v2]++rl.flatMap tcs).set ((q+1)*3) t.v0).set ((q+1)*3+1) t.v1).set ((q+1)*3+2) t.v2=[r.v0,r.v1,r.v2]++(rl.set q t).flatMap tcs;rw[<-I,show(q+1)*3=q*3+1+1+1 by omega];rfl
theorem TBs.put(h:TBs W0 B (sZ g 0 n c) rl)(hb:Bl W0 W)(hB:B<=W0.1.size)(ht:TWr W W0.1.size t)(hq:q<rl.length):
 TBs (((W.setCell (az g (q*3)) t.v0).setCell (az g (q*3+1)) t.v1).setCell (az g (q*3+2)) t.v2) B (sZ g 0 n c) (rl.set q t):=by
 obtain⟨a,cap,e,-⟩:=qEC _ (λ_=>rfl) QP h.own;have hn:n=rl.length:=by simp only[Value.slice.injEq]at e;exact e.2.1
 subst hn;have ho:=qB h.own hb;have O:=qK ho (g:=g) rfl;have K:=qU (o:=q*3) (v:=t.v0) O;have V:=qU (o:=q*3+1) (v:=t.v1) K;have hk:∀{s:TbR} {B':Nat},TWr W B' s->TWr (((sC W g (q*3) t.v0).setCell (az g (q*3+1)) t.v1).setCell (az g (q*3+2)) t.v2) B' s:=λhs=>
  TWr.setX (TWr.setX (TWr.setX hs O Dd Dd) K Dd Dd) V Dd Dd
 refine⟨?_,λs hs=>?_,?_⟩;rw[List.length_set,<-qBI hq];exact((((ho.stored _ _).1).stored _ _).1.stored _ _).1
 .rcases List.mem_or_eq_of_mem_set hs with hs|rfl;exact hk (TW.below (h.each s hs) hb);exact hk (TW.base ht hB)
 have old:∀s∈rl,∀x∈bls s,∀y∈bls t,ApW x y/\ApW y x:=λs hs x M y I=>by
  refine⟨λk h1 h2=>?_,λk h1 h2=>?_⟩;have h3:=((h.each s hs).lt M h1).2;have h4:=(ht.lt I h2).1;omega;have h3:=((h.each s hs).lt M h2).2;have h4:=(ht.lt I h1).1;omega
 refine List.pairwise_iff_getElem.2 λi j hi hj a3 x M y I=>?_;rw[List.length_set]at hi hj;rw[List.getElem_set]at M I;split at M
 .split at I;omega;exact(old _ (gM hj) y I x M).2
 split at I;exact(old _ (gM hi) x M y I).1;exact List.pairwise_iff_getElem.1 h.ap i j hi hj a3 x M y I
structure RdW(w0:World)(p:Nat)(x0 x1 x2:Value)(prs:LI)(T:List TbV)(W:World):Prop where
 tb:∃rl,TBs W w0.1.size x0 rl/\rl.map tvB=T
 bx:Bx3 93 W p x0 x1 x2
 pa:W.ownsRow w0.1.size 3 1 x1 prs.length (prs.map ai)
 bel:Bl w0 W
theorem RdW.below{p}(h:RdW w0 p x0 x1 x2 prs T W)(hb:Bl W W'):RdW w0 p x0 x1 x2 prs T W':=by
 obtain⟨⟨rl,I,K⟩,M,O,V⟩:=h;exact⟨⟨rl,I.below hb,K⟩,M.below hb,qB O hb,bt V hb⟩
theorem qGY:(rl.set q t).map tvB=(rl.map tvB).set q (tvB t):=List.map_set
theorem RdW.cells{p}(h:RdW w0 p (sZ g 0 n c) x1 x2 prs T W)(K:j<T.length):
 ∃(a0:OA) (m0 c0:Nat) (a1:OA) (m1 c1:Nat) (a2:OA) (m2 c2:Nat),(∀W',Bl W W'->W'.cell? (az g (j*3))=some (.slice a0 m0 c0)/\W'.cell? (az g (j*3+1))=some (.slice a1 m1 c1)/\W'.cell? (az g (j*3+2))=some (.slice a2 m2 c2)/\IT W' (.slice a0 m0 c0) (.slice a1 m1 c1) (.slice a2 m2 c2) (T.getD j qA).vs (T.getD j qA).rows (T.getD j qA).ws):=by
 obtain⟨⟨rl,h1,rfl⟩,-,-,-⟩:=h;rw[lM]at K;obtain⟨a,cap,e,M⟩:=qEC tcs (λ_=>rfl) QP h1.own;have V:TWr W w0.1.size (rl.getD j QP):=h1.each _ (qz K);have eg:(rl.map tvB).getD j qA=tvB (rl.getD j QP):=by
  rw[gD,gD,bK,gE K];rfl
 rw[eg];rcases M with h0|⟨g',ea,-,M⟩;omega;simp only[Value.slice.injEq]at e;obtain⟨O,-,-⟩:=e;rw[ea]at O;simp only[Option.some.injEq,Addr.mk.injEq,and_true]at O;subst O;obtain⟨q0,z0,e0⟩:=qG V.o0;obtain⟨q1,z1,O⟩:=qG V.rq.own;obtain⟨q2,z2,e2⟩:=qG V.o2;refine⟨q0,(rl.getD j QP).vs.length,z0,q1,(rl.getD j QP).rows.length,z1,q2,(rl.getD j QP).ws.length,z2,λW' hW=>?_⟩;rw[<-e0,<-O,<-e2];have I:=TW.below V hW;exact⟨qF hW (M j 0 K Oo),qF hW (M j 1 K Oo),qF hW (M j 2 K Oo),qN I.o0,I.rq.rs.iss (bJ _ _),qN I.o2⟩
theorem RdW.put{p}(h:RdW w0 p (sZ g 0 n c) x1 x2 prs T W0)(hb:Bl W0 W)(ht:TWr W W0.1.size t)(hq:q<T.length):
 RdW w0 p (sZ g 0 n c) x1 x2 prs (T.set q (tvB t)) (((W.setCell (az g (q*3)) t.v0).setCell (az g (q*3+1)) t.v1).setCell (az g (q*3+2)) t.v2):=by
 obtain⟨⟨rl,h1,rfl⟩,h2,h3,h4⟩:=h;rw[lM]at hq;have ho:=qB h1.own hb;have K:=qK ho (g:=g) rfl;have I:=qU (o:=q*3) (v:=t.v0) K;have V:=qU (o:=q*3+1) (v:=t.v1) I;have M:=(ho.lt g rfl).1;have O:p≠g:=λe=>by
  obtain⟨cur,a3⟩:=K;have:=(h2.below hb).blk;rw[e,a3]at this;simp only[Option.some.injEq,Obj.cells.injEq]at this;exact absurd this.2.1 Dd
 refine⟨⟨rl.set q t,h1.put hb h4.size ht hq,qGY⟩,⟨?_⟩,qI (qI (qI (qB h3 hb) K Dd) I Dd) V Dd,(((bt h4 hb).setCell M _).setCell M _).setCell M _⟩;rw[bD _ _ _ _ O,bD _ _ _ _ O,bD _ _ _ _ O];exact(h2.below hb).blk
open Go.Shelf
attribute [local go_sem] Oper.semAt_some
theorem UR{a:OA}n:
 aF 90 #[.slice a n c] w (.func (.func 128) #[] #[.pointer (some (az w.1.size 0))]) λw'=>w'=w.alloc (.cells #[.slice a n c] 24):=by
 go_enter func90,ntmps90;go_wp2;go_ret;exact⟨rfl,rfl⟩
structure KpG(B g:Nat)(X Y:World):Prop where
 size:X.1.size<=Y.1.size
 block:∀k,k<B->k≠g->Y.1[k]?=X.1[k]?
theorem KpG.trans(h:KpG B g X Y)(k:KpG B g Y Z):KpG B g X Z:=⟨bM h.size k.size,λi I K=>(k.block i I K).trans (h.block i I K)⟩
theorem KpG.of(h:Below B X Y):KpG B g X Y:=⟨h.size,λk I _=>h.block k I⟩
def rvL(n j:Nat):LN:=((List.range n).drop j).reverse
theorem qH9 n:rvL n n=[]:=by unfold rvL;rw[List.drop_eq_nil_of_le Ss];rfl
theorem qC1:(rvL n j).length=n-j:=by unfold rvL;rw[List.length_reverse,dP,List.length_range]
theorem qGZ(h:j<n):rvL n j=rvL n (j+1)++[j]:=by
 unfold rvL;rw[List.drop_eq_getElem_cons (by simpa using h),List.reverse_cons,List.getElem_range]
theorem VT w V g{M}c(ls:LI)(hb:w.1[V]?=some (.cells #[sZ M 0 ls.length c] 24 (0,0)))(b1:V≠g)(b7:M<w.1.size)(b8:M≠g)(h:∀j,j<ls.length->w.cell? (az M j)=some (ai (ls.getD j 0)))(hl:ls.length<=1000):
 Gives Tryz.prog 128 #[.pointer (some (az V 0))] (λx:Nat×Int=>#[ai (x.1:Int),ai x.2]) (λ_=>KpG w.1.size g) (λ_ _ _=>True) (λpre x b _ _=>b=(x,ls.getD x 0)/\x+pre.length+1=ls.length) (rvL ls.length 0) w:=by
 intro l J Jx W a3 c8 c9 hJ d0 hY h0;show Calls _ _ #[.func (.yield l) #[] #[],.pointer (some (az V 0))] W _;have HS:Hh (∀W',KpG w.1.size g w W'->W'.cell? (az V 0)=some (sZ M 0 ls.length c)):=ay λW' O=>by
  rw[fA _ _ _ _ _ _ ((O.block _ (qZ hb) b1).trans hb)];rfl
 have HC:Hh (∀W',KpG w.1.size g w W'->∀j,j<ls.length->W'.cell? (az M j)=some (ai (ls.getD j 0))):=ay λW' O j hj=>
  (bF (O.block M b7 b8)).trans (h j hj)
 have HT:Hh (∀j,j<ls.length->rvL ls.length j=rvL ls.length (j+1)++[j]):=ay λj hj=>qGZ hj;have a4:Hh (∀j,j<=ls.length->(rvL ls.length j).length=ls.length-j):=ay λj _=>qC1;have I:=ay hY;have HJ:=ay hJ;have a5:=ay (KpG.of (g:=g) a3);have a6:Hh (J (rvL ls.length ls.length) W):=ay (by rw[qH9];exact h0);clear hb h hY hJ h0 a3;obtain⟨n,hn⟩:=Ex ls.length;rw[<-hn]at hl HC HT HS I a4 a6 |-;clear hn;have c0:=HS W a5;go_enter func128,ntmps128;go_wp2_with fail;clear c0;go_loopw [3] (λt wr=>∃(j:Nat) (z:Int),j<=n/\t=ai z/\z+1=(j:Int)/\Hh (∃X,J (rvL n j) X/\KT W.1.size X wr/\KpG w.1.size g w wr)) (λt _=>(intOf t+1).toNat);exact⟨n,_,nR _,rfl,Oo,ay ⟨W,a6,KT.refl _ _,a5⟩⟩;obtain⟨j,z,b9,rfl,hz,K⟩:=hrel;cases j with
 |zero=>
  obtain rfl:z=-1:=Oo;have HF:=ay (by
   obtain⟨X,h1,h2,h3⟩:=K.o;exact HJ _ _ _ h1 h2)
  clear K HC I hz;go_wp2;go_end0
  exact⟨⟨_,rfl⟩,Or.inl HF⟩
 |succ k=>
  obtain rfl:z=(k:Int):=Oo;clear hz;have i1:(0:Int)<=k:=Oo;have i2:(k:Int)<n:=Oo;obtain⟨X,h1,h2,h3⟩:=K.o;have c1:=HC _ h3 k Oo;have c2:=HS _ h3;obtain⟨fn,tmps,assign,body,hy,hR⟩:=I.o (rvL n (k+1)) k (k,ls.getD k 0) X wr h1 h2 ⟨rfl,by rw[a4.o (k+1) b9];omega⟩;have HN:Hh (∀Z,J (rvL n (k+1)++[k]) Z->KpG w.1.size g wr Z->∃X,J (rvL n k) X/\KT W.1.size X Z/\KpG w.1.size g w Z):=ay λZ g1 g2=>⟨Z,by rw[HT.o k Oo];exact g1,KT.refl _ _,h3.trans g2⟩;have HR:=ay hR;clear hR h1 h2 h3 K HC I HS;generalize ls.getD k 0=x at *;refine(wpIn_wide (n:=0)).1 ?_;gi_wp2
  refine⟨rfl,?_⟩;apply HR.o.mono;rintro e w9 (⟨rfl,a7,a8⟩|⟨rfl,a9,-⟩)
  .have c7:=ay (HN.o w9 a7 a8);clear a7 a8 hy HR HN;gi_wp2
   go_wp2;go_roundw;exact⟨k,_,Oo,rfl,Oo,c7⟩;simp[intOf]
  clear hy HR HN;gi_wp2
  go_wp2_with fail;refine bodyPost_ret (P:=Tryz.prog) (fn:=f128) (R:=λe W'=>(∃v,e=.returned v)/\(J (rvL n 0) W'\/Jx W')) (results_none rfl _ _ _) rfl ?_;exact⟨⟨_,rfl⟩,Or.inr a9⟩
def whJ(k:Int)(tl:List TbV)(bs:LL)(ps hs:LI)(ws:LP)(x:Int×Int):Bool:=zX k (tl.map TbV.vs) bs ps hs ws x&&decide (0<=zK tl (upR k.toNat))
end Go.Proofs.YtnpgdnaeghilhaaGreat
namespace Go.Proofs.YtnpgdnaeghilhaaGreat
open Go.Proofs.Tryz Go.RowKit
variable {ls:LL}{tl:List TbV}{B k g c I:Nat}{v v0 vt v1 v2 v3:Value}{W w3 W':World}{cs:List (Value×Value)}
def ITsC(W:World)(v:Value)(tl:List TbV):Prop:=∃a cap,v=.slice a tl.length cap/\(tl.length=0\/∃b o,a=some (az b o)/\∀j,j<tl.length->∃v0 v1 v2,W.cell? (az b (o+j*3))=some v0/\W.cell? (az b (o+j*3+1))=some v1/\W.cell? (az b (o+j*3+2))=some v2/\IT W v0 v1 v2 (tl.getD j qA).vs (tl.getD j qA).rows (tl.getD j qA).ws/\ISSc W v1 (tl.getD j qA).rows)
theorem ITsC.its(h:ITsC W v tl):ITs W v tl:=by
 have⟨a,cap,e,h⟩:=h;refine⟨a,cap,e,?_⟩;rcases h with h|⟨b,o,I,h⟩;exact .inl h;refine .inr ⟨b,o,I,λj K=>?_⟩;obtain⟨v0,v1,v2,c0,c1,c2,M,-⟩:=h j K;exact⟨v0,v1,v2,c0,c1,c2,M⟩
def wgI(t:TbV)(p:LI):Int:=t.ws.getD (t.rows.idxOf (qM t.vs p)) 0
def wgL(tl:List TbV)(p:LI):LI:=tl.map λt=>wgI t p
def AnS(tl:List TbV)(W:World)(v:Value)(ls:LL):Prop:=∃a cap,v=.slice a ls.length cap/\(ls.length=0\/∃b o,a=some (az b o)/\∀j,j<ls.length->∃v0 aw nw cw,W.cell? (az b (o+j*2))=some v0/\W.cell? (az b (o+j*2+1))=some (.slice aw nw cw)/\IS W v0 (ls.getD j [])/\IS W (.slice aw nw cw) (wgL tl (ls.getD j [])))
structure AnM(tl:List TbV)(w3 W:World)(v:Value)(ls:LL)(cs:List (Value×Value)):Prop where
 len:cs.length=ls.length
 own:W.ownsRow w3.1.size 82 2 v ls.length (cs.flatMap λc=>[c.1,c.2])
 el:∀i,i<ls.length->IS w3 (cs.getD i (undef,undef)).1 (ls.getD i [])/\∃a c B,(cs.getD i (undef,undef)).2=.slice a tl.length c/\W.ownsRow B 3 1 (.slice a tl.length c) tl.length ((wgL tl (ls.getD i [])).map ai)
 bel:Bl w3 W
theorem qBQ:∀{cs:List (Value×Value)} {i:Nat},i<cs.length->(cs.flatMap λc=>[c.1,c.2])[i*2]?=some (cs.getD i (undef,undef)).1/\(cs.flatMap λc=>[c.1,c.2])[i*2+1]?=some (cs.getD i (undef,undef)).2
 |c::cs,0,_=>⟨rfl,rfl⟩
 |c::cs,i+1,h=>by
  have⟨I,K⟩:=qBQ (cs:=cs) (i:=i) (by simpa using h);rw[show(i+1)*2=i*2+1+1 by omega];exact⟨I,K⟩
theorem AnM.push{a:OA}{r}(h:AnM tl w3 W v ls cs)(K:∀{B v n xs},W.ownsRow B 3 1 v n xs->W'.ownsRow B 3 1 v n xs)(M:W'.ownsRow B 3 1 (.slice a tl.length k) tl.length ((wgL tl r).map ai))(O:IS w3 v0 r)(I:W'.ownsRow w3.1.size 82 2 (sZ g 0 (ls.length+1) c) (ls.length+1) ((cs.flatMap λc=>[c.1,c.2])++[v0,.slice a tl.length k]))(hb:Bl w3 W'):AnM tl w3 W' (sZ g 0 (ls.length+1) c) (ls++[r]) (cs++[(v0,.slice a tl.length k)]):=by
 have hl:=h.len;refine⟨by simp[hl],by rw[lA,lS,dM];exact I,λi hi=>?_,hb⟩;rw[lA,lS]at hi;by_cases e:i<ls.length;rw[gD,aL Oo,<-gD,gD (l:=ls++[r]),aL e,<-gD];obtain⟨V,a',c',B',h2,h3⟩:=h.el i e;exact⟨V,a',c',B',h2,K h3⟩;obtain rfl:i=ls.length:=Oo;rw[gD,bQ Oo,gD (l:=ls++[r]),bQ (nR _),hl,Nat.sub_self];exact⟨O,a,k,B,rfl,M⟩
theorem AnM.is(h:AnM tl w3 W v ls cs):AnS tl W v ls:=by
 rcases h.own.2 with ⟨rfl,I⟩|⟨g,cap,cur,rfl,hb',K,I,-,-,M⟩;exact⟨none,0,by rw[I],.inl I⟩;refine⟨_,cap,rfl,.inr ⟨g,0,rfl,λj V=>?_⟩⟩;have hl:=h.len;have⟨h1,a,c,B,h2,O⟩:=h.el j V;have⟨f1,f2⟩:=qBQ (cs:=cs) (i:=j) Oo;rw[cU];refine⟨(cs.getD j _).1,a,tl.length,c,?_,?_,h1.below h.bel,qN (by unfold wgL at O |-;rw[lM];exact O)⟩;rw[eI K,<-f1,<-M,cL Oo,dY];rw[eI K,<-h2,<-f2,<-M,cL Oo,dY]
theorem qG4{rows}{q:LI}(hs:SL rows)(hq:q∈rows)(hl:∀r∈rows,r.length=q.length)(h:Sk rows q k):k=rows.idxOf q/\k<rows.length:=by
 have I:=List.idxOf_lt_length_iff.2 hq;have e:=List.getElem_idxOf I;generalize rows.idxOf q=j at *;rcases Nat.lt_trichotomy j k with M|rfl|M;have K:=h.lo j M;rw[gdR I,e,tL,zj]at K;omega;exact⟨rfl,I⟩;have K:=h.hi k eA Oo;have O:=List.pairwise_iff_getElem.1 hs k j Oo I M;rw[gdR Oo,List.take_of_length_le (Nat.le_of_eq (hl _ (gM _)))]at K;rw[e]at O;exact absurd O K
theorem qGe(K:okJ tl (upR I)=true){p:LI}(M:p∈qO tl (upR I)){t}(V:t∈tl):qM t.vs p∈t.rows/\p.length=I/\∀y∈t.vs,0<=y/\y<I:=by
 have hF:=jz K (uO I);have hm:p∈lvJ tl (upR I) (upR I).length:=by
  rw[(vY K).1]at M;split at M;exact M;cases M
 have⟨h1,h2⟩:=(qC2 hF p).1 hm;rw[zO]at h1;have hv:=λy O=>uw.1 ((hF.vs t V).2 y O);refine⟨?_,h1,hv⟩;have e:qM t.vs p=qQ (upR I) t.vs p:=cV λy O=>by
  have h3:=hv y O;have h4:=jL (upR I) p y.toNat (uO _) (by rw[zO];omega);rw[qBO Oo,show((y.toNat:Nat):Int)=y by omega]at h4;exact h4.symm
 rw[e];exact h2 t V
open Meet
def WjR(b:Bool)(w w':World)(v:Value)(rows:LL):Prop:=(b=true->∃us,RQ w' w.1.size v us rows)/\Bl w w'
theorem YH w k x y{bs ps hs ws}(h:ITs w vt tl)(hl:tl.length<=1048576)(hs':∀t∈tl,TvS t)(hp:IPl w v0 v1 v2 v3 bs ps hs ws)(c7:qS bs)(c8:ps.length<=1099511627776):
 Cl 48 #[ai k,vt,.agg #[v0,v1,v2,v3,ai x,ai y]] w λe w'=>∃a n c,e=.returned (.tuple #[.slice a n c,.bool (whJ k tl bs ps hs ws (x,y))])/\WjR (whJ k tl bs ps hs ws (x,y)) w w' (.slice a n c) (qO tl (upR k.toNat)):=by
 have d9:Tryz.prog.follows .mixedOrders=true:=Kl;have a8:∀W:World,Bl W W.drew:=λW=>(bJ _ _).drew;have KE:Hh (∀W,Bl w W->Cl 61 #[vt] W λe w'=>∃v,e=.returned v/\ISS w' v (tl.map TbV.vs)/\Bl W w'):=ay λW hW=>jb W (h.below hW) hl;have KP:Hh (∀W v,Bl w W->ISS W v (tl.map TbV.vs)->Cl 60 #[ai k,v,.agg #[v0,v1,v2,v3,ai x,ai y]] W λe w'=>e=.returned (.bool (zX k (tl.map TbV.vs) bs ps hs ws (x,y)))/\Bl W w'):=ay λW v hW hv=>Zw W v k x y hv (Vk hl hs') (hp.below hW).b c7 (hp.below hW).p c8 (hp.below hW).h (hp.below hW).d;have HK:Hh (zX k (tl.map TbV.vs) bs ps hs ws (x,y)=true->0<=k/\k<=6):=λhr=>by
  unfold zX at hr;rw[bV,bV,bV,bV,bV]at hr;have:=xA hr.1.1.1.1.1;exact⟨this.1,this.2.1⟩
 have KV:Hh (∀W,0<=k->k<=6->Cl 63 #[ai k] W λe w'=>∃a c,e=.returned (.slice a k.toNat c)/\IS w' (.slice a k.toNat c) (upR k.toNat)/\Bl W w'):=λW h1 h2=>by
  have:=uN W k.toNat Oo;rw[show((k.toNat:Nat):Int)=k by omega]at this;apply this.mono;rintro e w' ⟨v,rfl,ho,hb⟩;obtain⟨a,c,e0⟩:=qG ho;rw[zO]at e0;subst e0;exact⟨a,c,rfl,qN ho,hb⟩
 have KJ:Hh (∀W vo,Bl w W->k<=6->IS W vo (upR k.toNat)->Cl 62 #[vt,vo] W λe w'=>∃a n c,e=.returned (.tuple #[.slice a n c,ai (zK tl (upR k.toNat))])/\(∃us,RQ w' W.1.size (.slice a n c) us (qO tl (upR k.toNat)))/\Bl W w'):=λW vo hW h6 ho=>by
  apply (Qw W _ _ (h.below hW) ho hl (by rw[zO];omega) hs').mono;rintro e w' ⟨v,us,rfl,hQ,hb⟩;obtain⟨a,c,e0⟩:=hQ.sl;subst e0;exact⟨_,_,_,rfl,⟨us,hQ⟩,hb⟩
 have HW:Hh (whJ k tl bs ps hs ws (x,y)=(zX k (tl.map TbV.vs) bs ps hs ws (x,y)&&decide (0<=zK tl (upR k.toNat)))):=rfl;obtain⟨a0,k0,rfl,-⟩:=hp.b;obtain⟨a1,k1,rfl,-⟩:=hp.p;obtain⟨a2,k2,rfl,-⟩:=hp.h;obtain⟨a3,k3,rfl,-⟩:=hp.d;clear hp c7 hs' c8;obtain⟨e1,ct,rfl,-⟩:=h;generalize zX k (tl.map TbV.vs) bs ps hs ws (x,y)=PL,whJ k tl bs ps hs ws (x,y)=WH,zK tl (upR k.toNat)=VJ,qO tl (upR k.toNat)=RJ,tl.length=n,bs.length=nb,ps.length=np,hs.length=nh at *;generalize ws.length=nw at *;obtain⟨V,O⟩:=Ex (w.alloc (.cells #[.slice a0 nb k0,.slice a1 np k1,.slice a2 nh k2,.slice a3 nw k3,ai x,ai y] 38));have c9:Hh (PX 38 V w.1.size (.slice a0 nb k0) (.slice a1 np k1) (.slice a2 nh k2) (.slice a3 nw k3) x y):=(by rw[O];exact PX.made _ _ _ _ _ _ _ _);have I:Hh (Bl w V):=(by rw[O];exact(bJ _ _).alloc (nR _) _);have a9:Hh (∀W,Bl V W->W.cell? (az w.1.size 0)=some (.slice a0 nb k0)/\aC W w.1.size 1 (.slice a1 np k1)/\aC W w.1.size 2 (.slice a2 nh k2)/\aC W w.1.size 3 (.slice a3 nw k3)/\aC W w.1.size 4 (ai x)/\aC W w.1.size 5 (ai y)):=λW hW=>(c9.o.below hW).six;obtain⟨s0,s1,s2,s3,s4,s5⟩:=a9 _ (a8 _);have b7:=ay (KE _ (bt I (a8 _)));clear KE c9;cases PL with
 |false=>
  rw[Bool.false_and]at HW;go_enter func48,ntmps48;go_upto_region 1 with fail;rw[<-O];clear O;go_region_law (first
   |(go_simp;go_at_call 61;apply b7.o.mono;rintro e w3 ⟨v3,rfl,b8,a4⟩;have K:Bl V w3:=bt (a8 _) a4;have⟨t0,t1,t2,t3,t4,t5⟩:=a9 _ K)
   |(go_simp;go_at_call 60;apply (KP.o _ _ (bt I.o K) b8).mn;intro w4 a7;have M:Bl V w4:=bt K a7)
   |fail)
  all_goals go_wp2_with fail
  all_goals go_ret2
  all_goals rw[HW.o]
  all_goals first|exact⟨_,_,_,rfl,(λh=>by cases h),bt I M⟩|exact⟨⟨_,_,_,rfl⟩,⟨(λh=>by cases h),bt I.o M⟩⟩|exact⟨_,_,_,rfl,⟨(λh=>by cases h),bt I.o M⟩⟩|exact⟨_,_,⟨_,rfl⟩,⟨(λh=>by cases h),bt I.o M⟩⟩|exact⟨_,⟨_,_,rfl⟩,(λh=>by cases h),bt I.o M⟩
 |true=>
  rw[dG]at HW;have⟨d8,d0⟩:=HK rfl;go_enter func48,ntmps48;go_upto_region 1 with fail;rw[<-O];clear O;go_cut [15] from 10 to 14 (λv wx=>v=.bool false/\Hh (Bl V wx))
  case first=>
   go_region_law (first
    |(go_simp;go_at_call 61;apply b7.o.mono;rintro e w3 ⟨v3,rfl,b8,a4⟩;have K:Bl V w3:=bt (a8 _) a4;have⟨t0,t1,t2,t3,t4,t5⟩:=a9 _ K)
    |(go_simp;go_at_call 60;apply (KP.o _ _ (bt I.o K) b8).mn;intro w4 a7;have M:Bl V w4:=bt K a7)
    |fail)
   all_goals(go_wp2;go_meet)
   all_goals exact⟨rfl,ay M⟩
  case rest=>
  obtain⟨rfl,d1⟩:=hcut;generalize wc=w4 at *;have b9:=ay (bt I d1);have d2:=ay (KV w4 d8 d0);clear b7 KP d1 s0 s1 s2 s3 s4 s5 a9 KV HK;go_upto_region 4 with (first|go_at_call 63;apply d2.o.mono;rintro e w5 ⟨a5,c5,rfl,d3,b1⟩|go_at_call 62;apply (KJ.o _ _ (bt b9.o b1) d0 d3).mono;rintro e w6 ⟨a6,n6,c6,rfl,d4,d5⟩);have d6:=ay (bt (bt b9 b1) d5);have d7:Hh (∃us,RQ w6 w.1.size (.slice a6 n6 c6) us RJ):=(by obtain⟨us,hq⟩:=d4;exact⟨us,hq.base (bt b9 b1).size⟩);clear b1 d5 d3 d4 KJ d2;by_cases hv:0<=VJ
  .rw[fD hv]at HW;go_wp2;go_ret2;rw[HW.o];exact⟨_,_,_,rfl,λ_=>d7,d6⟩
  rw[fC hv]at HW;go_wp2;go_ret2;rw[HW.o];exact⟨_,_,_,rfl,λ_=>d7,d6⟩
end Go.Proofs.YtnpgdnaeghilhaaGreat
