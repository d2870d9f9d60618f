import Derived.Test.YtcnfapnfmnolbaaGreatRq26
import Derived.Test.YtcnfapnfmnolbaaGreatRq38
set_option maxHeartbeats 40000000
set_option maxRecDepth 1000000
namespace Go.Proofs.YtcnfapnfmnolbaaGreat
open Go.RowKit
variable {v:Int}{o p:LI}{tl:List TbV}{i:Nat}
theorem Qs(w:World)(vt vo:Value)(tl:List TbV)(o:LI)(h:ITs w vt tl)(ho:IS w vo o)(hl:tl.length<=1000)(e7:o.length<=1000)(e8:∀t∈tl,TvJ t)(g7:Qq tl o):
 Cl 46 #[vt,vo] w λe w'=>∃v,e=.returned (.tuple #[v,ai (if smJ tl o o.length then (viJ tl o o.length:Int) else -1)])/\Fz w.1.size (λW=>ISS W v (if smJ tl o o.length then lvJ tl o o.length else [])) w'/\Bl w w':=by
 obtain⟨i0,hi,l0,l1,l2⟩:=info_parts Tryz.infoInt;obtain⟨iS,hj,q8,r3,r4⟩:=info_parts Tryz.infoIS;have e9:=ay (UN w vt vo tl o h ho hl e7 e8);have r5:Hh (∀p,(nxJ tl o p).length<=10000):=ay λp=>qFM e8 p;have l3:Hh (∀W vS vp p k,Bl w W->ISds W vS (tl.map (sdT o))->IS W vp p->p∈lvJ tl o k->k<o.length->Cl 65 #[vS,vo,vp] W λe w'=>∃g c,e=.returned (.slice (some (az g 0)) (nxJ tl o p).length c)/\w'.ownsRow W.1.size 3 1 (.slice (some (az g 0)) (nxJ tl o p).length c) (nxJ tl o p).length ((nxJ tl o p).map ai)/\Bl W w'):=ay λW vS vp p k hW hS hp hm hk=>by
  have t8:=uz p hm;refine Jm W vS vo vp (tl.map (sdT o)) o p hS (ho.below hW) hp Oo e7 (by rw[lM];exact hl) (λs hs=>?_) (qFL p hm) (qG4 g7 Oo) (λs hs=>?_);obtain⟨t,ht,rfl⟩:=List.mem_map.1 hs;exact⟨vO o t,bM (km o t) (by have:=(e8 t ht).n;omega),bM (vE _ _) e7⟩;obtain⟨t,ht,rfl⟩:=List.mem_map.1 hs;exact qGZ Oo
 obtain⟨r6,ct,rfl,hc⟩:=h;obtain⟨ao,co,rfl,-⟩:=ho;have HC:Hh (∀W,Bl w W->∀j,j<tl.length->∃b oo,r6=some (az b oo)/\TabAt W b (oo+j*3) (tl.getD j qA)):=ay λW hW j hj=>by
  rcases hc with h0|⟨b,oo,rfl,h⟩;omega;exact⟨b,oo,rfl,(h j hj).below hW⟩
 have l4:Hh (∀j,j<tl.length->(tl.take (j+1)).any (λt=>decide (t.rows.length=0))=((tl.take j).any (λt=>decide (t.rows.length=0))||decide ((tl.getD j qA).rows.length=0))):=ay λj hj=>by
  rw[tA,gE hj,List.any_append,gD,gE hj];simp
 have l5:Hh ((tl.take tl.length).any (λt=>decide (t.rows.length=0))=xC tl):=ay (by rw[tL];rfl);have l6:Hh ((tl.take 0).any (λt=>decide (t.rows.length=0))=false):=ay rfl;obtain⟨EM,l7⟩:=Ex (λj=>(tl.take j).any (λt=>decide (t.rows.length=0)):Nat->Bool);have c8:Hh (EM 0=false/\EM tl.length=xC tl/\∀j,j<tl.length->EM (j+1)=(EM j||decide ((tl.getD j qA).rows.length=0))):=ay (by rw[l7];exact⟨l6.o,l5.o,l4.o⟩);clear l7 l4 l5 l6;obtain⟨n,hn⟩:=Ex tl.length;rw[<-hn]at hl HC c8 e9 ⊢;clear hn hc e8 g7;obtain⟨no,c9⟩:=Ex o.length;rw[<-c9]at e7 l3 e9 ⊢;clear c9;obtain⟨AN,h6⟩:=Ex ((if smJ tl o no then (viJ tl o no:Int) else -1):Int);obtain⟨AL,h7⟩:=Ex ((if smJ tl o no then lvJ tl o no else []):LL);rw[<-h6,<-h7];have l8:=ay h6;have l9:=ay h7;clear h6 h7;go_enter Tryz.func46,Tryz.ntmps46;go_upto_region 2 with (first|(go_at_call 64;refine e9.o.mono ?_;rintro e w1 ⟨vS,rfl,m0,m1⟩)|fail);have m2:=ay m0;have h8:=ay m1;obtain⟨aS,cS,rfl,-⟩:=m0;have r7:(tl.map (sdT o)).length=(tl.map (sdT o)).length:=rfl;generalize (tl.map (sdT o)).length=ns at *;clear m1 e9 r7;obtain⟨W2,d0⟩:=Ex ((w1.alloc (.cells #[] 3)).alloc (.cells #[.slice (some (az w1.1.size 0)) 0 0] 24));have h9:Bl w1 W2:=by rw[d0];exact ji (ji (bJ _ _) _) _
 have m3:Hh (Fz w.1.size (λW=>ISSn W (.slice (some (az (w1.1.size+1) 0)) 1 1) [[]]) W2):=ay λW' r8=>by
  refine⟨_,1,rfl,Or.inr ⟨w1.1.size+1,0,rfl,λj hj=>?_⟩⟩;obtain rfl:j=0:=by simpa using hj
  refine⟨(az w1.1.size 0),0,?_,⟨_,0,rfl,Or.inl rfl⟩⟩;have t9:W2.1.size=w1.1.size+2:=by rw[d0];simp
  rw[bF (w:=W2) (a:=(az (w1.1.size+1) (0+0))) (r8 (w1.1.size+1) (by have:=h8.o.size;omega) Oo),d0,bE _ _ _ _ Ss];rfl
 have i4:=ay (bt h8.o h9);have m4:=ay (m2.o.below h9);clear h9 m2 h8;go_upto_region 3 with fail;rw[<-d0];clear d0;have m5:Hh (∀j,lvJ tl o (j+1)=(lvJ tl o j).flatMap λq=>(nxJ tl o q).map λv=>q++[v]):=ay λj=>qD7 tl o j;have m6:Hh (xC tl=true->lvJ tl o 0=[]):=ay λh=>by unfold lvJ;rw[if_pos h]
 have m7:Hh (xC tl=false->lvJ tl o 0=[[]]):=ay λh=>by unfold lvJ;rw[h];rfl
 have m8:Hh (∀j,∀q∈lvJ tl o j,q.length=j):=ay λj q hq=>uz q hq;have i5:Hh (smJ tl o 0=true/\(∀j,smJ tl o (j+1)=(smJ tl o j&&decide ((lvJ tl o (j+1)).length<=10000)))/\(∀j k,j<k->¬(lvJ tl o (j+1)).length<=10000->smJ tl o k=false)):=ay ⟨rfl,λj=>XH tl o j,λj k h1 h2=>Vm h1 h2⟩;have i6:Hh (viJ tl o 0=0/\(∀j,viJ tl o (j+1)=viJ tl o j+(lvJ tl o (j+1)).length)/\∀j,smJ tl o j=true->viJ tl o j<=j*10000):=ay ⟨rfl,λj=>Ji tl o j,λj h=>Jj h⟩;go_upto_block 0 with fail;go_cut [7] (λv7 wx=>∃vl,vl=v7/\Hh (Fz w.1.size (λW=>ISSn W vl (lvJ tl o 0)) wx/\Bl W2 wx))
 case first=>
  go_wp2_with fail;go_loopw [7,23] (λv7 t wr=>∃(j:Nat) (vl:Value),j<=n/\t=ai j/\vl=v7/\Hh (vl=(if EM j then sn else .slice (some (az (w1.1.size+1) 0)) 1 1)/\Bl W2 wr)) (λ_ t _=>n-(intOf t).toNat);exact⟨0,_,nZ _,rfl,rfl,ay ⟨by rw[c8.o.1];rfl,bJ _ _⟩⟩;obtain⟨j,vl,v6,rfl,rfl,O⟩:=hrel;by_cases d2:j<n
  ·have i1:(j:Int)<(n:Int):=Oo;obtain⟨b,oo,ea,v0,v1,v2,c0,c1,c2,hI⟩:=HC.o wr (bt i4.o O.o.2) j d2;subst ea;have HE:=ay (c8.o.2.2 j d2);obtain⟨a0,k0,e0,-⟩:=hI.vs;obtain⟨a1,k1,e1,-⟩:=hI.rows;obtain⟨a2,k2,e2,-⟩:=hI.ws;subst e0 e1 e2;clear hI;generalize (tl.getD j qA).rows.length=nr at *;generalize (tl.getD j qA).vs.length=n0 at *;generalize (tl.getD j qA).ws.length=n2 at *;obtain⟨W3,f7⟩:=Ex (wr.alloc (.cells #[.slice a0 n0 k0,.slice a1 nr k1,.slice a2 n2 k2] 61));have m9:Bl wr W3:=by rw[f7];exact(bJ _ _).alloc (nR _) _
   have d1:W3.cell? (az wr.1.size 1)=some (.slice a1 nr k1):=by rw[f7,bE _ _ _ _ rfl];rfl
   have f8:=ay (bt O.o.2 m9);have HV:=ay O.o.1;clear m9 O;go_upto_region 6 with fail;rw[<-f7];clear f7 c0 c1 c2;by_cases hz:nr=0
   ·subst hz;go_wp2_with fail;go_roundw
    case rel=>first|exact⟨j+1,_,Oo,Gg,rfl,ay ⟨by rw[HE.o];simp,f8.o⟩⟩|((repeat apply Exists.intro);exact⟨⟨j+1,_,Oo,Gg,rfl,ay ⟨by rw[HE.o];simp,f8.o⟩⟩,rfl⟩)
    case measure=>simp[intOf];omega
   have q1:((nr:Int) == 0)=false:=Sy;have n1:Hh (EM (j+1)=EM j):=ay (by rw[HE.o,decide_eq_false hz,Bool.or_false]);go_wp2_with fail;go_roundw
   case rel=>first|exact⟨j+1,_,Oo,Gg,rfl,ay ⟨by rw[n1.o];exact HV.o,f8.o⟩⟩|((repeat apply Exists.intro);exact⟨⟨j+1,_,Oo,Gg,rfl,ay ⟨by rw[n1.o];exact HV.o,f8.o⟩⟩,rfl⟩)
   case measure=>simp[intOf];omega
  obtain rfl:j=n:=Oo;have i1:¬(j:Int)<(j:Int):=Oo;have HF:Hh (Fz w.1.size (λW=>ISSn W vl (lvJ tl o 0)) wr/\Bl W2 wr):=ay ⟨by
   rw[O.o.1,c8.o.2.1];by_cases he:xC tl=true;rw[if_pos he,m6.o he];exact λ_ _=>⟨none,0,rfl,Or.inl rfl⟩;rw[if_neg he,m7.o (by simpa using he)];exact m3.o.below O.o.2,O.o.2⟩
  clear O;go_wp2_with fail;go_meet;exact⟨vl,rfl,HF⟩
 case rest=>
 obtain⟨v8,rfl,HL⟩:=hcut;have n3:=ay (bt i4.o HL.o.2);have r9:=ay (m4.o.below HL.o.2);have n4:=ay HL.o.1;clear HL i4 m4 m3 c8 m6 m7 HC;generalize wc=W4 at *;go_wp2_with fail;go_loopw [7,10,34] (λv7 v10 t wr=>∃(k vis:Nat) (vl:Value),k<=no/\t=ai k/\v10=ai vis/\vl=v7/\Hh (smJ tl o k=true/\vis=viJ tl o k/\Fz w.1.size (λW=>ISSn W vl (lvJ tl o k)) wr/\Bl W4 wr)) (λ_ _ t _=>no-(intOf t).toNat);exact⟨0,0,_,nZ _,rfl,rfl,rfl,ay ⟨i5.o.1,i6.o.1.symm,n4.o,bJ _ _⟩⟩;clear n4;obtain⟨k,vis,vl,hk,rfl,rfl,rfl,O⟩:=hrel;by_cases d2:k<no
 ·have i1:(k:Int)<(no:Int):=Oo;obtain⟨a4,K,b8,a5⟩:=O.o;have v9:vis<=k*10000:=by rw[K];exact i6.o.2.2 k a4
  have n5:=ay a4;have n6:=ay K;have i7:=ay (bt n3.o a5);have n7:=ay a5;have s1:=ay (r9.o.below a5);have f9:=ay b8.self;obtain⟨al,cl,rfl,-⟩:=b8.self;have g8:(lvJ tl o k).length<=10000:=qCz a4;clear O a4 K a5 b8;obtain⟨L,hL⟩:=Ex (lvJ tl o k);have i8:Hh (∀i,i<L.length->L.getD i []∈lvJ tl o k):=ay λi hi=>by rw[<-hL,gD,gE hi];exact gM _
  have d3:Hh (lvJ tl o (k+1)=nxL (nxJ tl o) L L.length):=ay (by rw[m5.o,<-hL];unfold nxL;rw[tL]);have n8:Hh (∀i,(nxL (nxJ tl o) L i).length<=(lvJ tl o (k+1)).length):=ay λi=>by rw[m5.o,<-hL];exact qGc _ _ _
  have n9:Hh (∀i,i<L.length->nxL (nxJ tl o) L (i+1)=nxL (nxJ tl o) L i++(nxJ tl o (L.getD i [])).map λv=>L.getD i []++[v]):=ay λi hi=>qEB _ hi;have i9:Hh (∀i,i<L.length->(L.getD i []).length=k):=ay λi hi=>m8.o k _ (i8.o i hi);rw[<-hL]at f9 g8 ⊢;clear hL;obtain⟨nl,j0⟩:=Ex L.length;have t4:=ay j0;rw[<-j0]at i8 d3 n9 i9 f9 g8 ⊢;have o3:Hh (∀W,Bl wr W->∀i,i<nl->∃b oo ad c,al=some (az b oo)/\W.cell? (az b (oo+i))=some (.slice (some ad) k c)/\IS W (.slice (some ad) k c) (L.getD i [])):=ay λW hW i hi=>by
   obtain⟨a',c',e,hh⟩:=f9.o;simp only[Value.slice.injEq]at e;obtain⟨rfl,-,-⟩:=e;rcases hh with h0|⟨b,oo,ea,hh⟩;omega;obtain⟨ad,c,h1,h2⟩:=hh i Oo;rw[i9.o i hi]at h1 h2;exact⟨b,oo,ad,c,ea,qEA hW h1,h2.below hW⟩
  clear j0 f9;obtain⟨W5,j1⟩:=Ex (wr.alloc (.cells #[] 24));have j2:Hh (Bl wr W5/\RQ W5 wr.1.size (.slice (some (az wr.1.size 0)) 0 0) [] []):=ay (by
   rw[j1];exact⟨aK,oM wr #[] 0 (nR _) Dd rfl,rfl,λi hi=>by simp at hi,λi j _ hj=>by simp at hj⟩)
  go_upto_region 13 with fail;rw[<-j1];clear j1;generalize wr=wo at *;go_wp2_with fail;go_loopw [11,39] (λv11 t wr=>∃(i:Nat) (vn:Value),i<=nl/\t=ai i/\vn=v11/\Hh (∃un,Bl wo wr/\RQ wr wo.1.size vn un (nxL (nxJ tl o) L i)/\(nxL (nxJ tl o) L i).length<=10000)) (λ_ t _=>nl-(intOf t).toNat);exact⟨0,_,nZ _,rfl,rfl,ay ⟨[],j2.o.1,j2.o.2,nZ _⟩⟩;clear j2;obtain⟨i,vn,w2,rfl,rfl,O⟩:=hrel;obtain⟨un,o4,o5,s2⟩:=O.o;have a6:=ay o4;have d4:=ay o5;clear O o4 o5;by_cases a8:i<nl
  ·have i2:(i:Int)<(nl:Int):=Oo;obtain⟨b,oo,ad,c,ea,e0,d5⟩:=o3.o wo (bJ _ _) i a8;subst ea;have e1:=qEA a6.o e0;have o6:=d5.below a6.o;have g9:Hh (∀W,Bl wo W->IS W (.slice (some ad) k c) (L.getD i [])):=ay λW hW=>d5.below hW;clear e0 d5;have d6:=ay (l3.o wr _ _ (L.getD i []) k (bt i7.o a6.o) (s1.o.below a6.o) o6 (i8.o i a8) d2);have a9:=ay (n9.o i a8);have o7:=ay (i9.o i a8);have j3:=r5.o (L.getD i []);obtain⟨q,hq⟩:=Ex (L.getD i []);rw[<-hq]at d6 g9 a9 o7 j3;clear hq o6;obtain⟨xs,o8⟩:=Ex (nxJ tl o q);rw[<-o8]at d6 a9 j3;clear o8;obtain⟨nx,j4⟩:=Ex xs.length;have b9:=ay j4;rw[<-j4]at d6 j3;clear j4;generalize wr=wm at *;go_upto_block 6 with (first|(go_at_call 65;refine d6.o.mono ?_;rintro e w6 ⟨gx,cx,rfl,o9,j5⟩)|fail);have p1:=ay o9;have s3:=ay (bt a6.o j5);have p2:=ay (d4.o.below j5);clear o9 j5 d6 e1 d4;go_wp2_with fail;go_loopw [11,48] (λv11 t wr=>∃(m:Nat) (c7:Value),m<=nx/\t=ai m/\c7=v11/\Hh (∃a7,Bl wo wr/\RQ wr wo.1.size c7 a7 (nxL (nxJ tl o) L i++mxL q xs m)/\wr.ownsRow wm.1.size 3 1 (.slice (some (az gx 0)) nx cx) nx (xs.map ai))) (λ_ t _=>nx-(intOf t).toNat);exact⟨0,vn,nZ _,rfl,rfl,ay ⟨un,s3.o,by show RQ _ _ _ _ (_++[]);rw[List.append_nil];exact p2.o,p1.o⟩⟩;clear p1 p2;obtain⟨m,c7,s4,rfl,rfl,O⟩:=hrel;obtain⟨a7,p3,p4,p5⟩:=O.o;have d7:=ay p3;have d8:=ay p4;have j6:=ay p5;clear O p3 p4 p5;have hlen:(nxL (nxJ tl o) L i++mxL q xs m).length=(nxL (nxJ tl o) L i).length+m:=by rw[lA,qFV (by rw[<-b9.o];exact s4)]
   by_cases d9:m<nx
   ·have i3:(m:Int)<(nx:Int):=Oo;have w4:wr.cell? (az gx m)=some (ai (xs.getD m 0)):=by
     rw[j6.o.cellAt m Oo,bK,gE (by rw[<-b9.o];exact d9),gD,gE (by rw[<-b9.o];exact d9)];rfl
    have p6:=g9.o _ (bt d7.o ((bJ _ wr).alloc (nR _) (.cells #[] 3)));have s5:=ay (qBx p6);have e3:(wr.alloc (.cells #[] 3)).ownsRow wr.1.size 3 1 (.slice (some (az wr.1.size 0)) 0 0) 0 []:=oM wr #[] 0 (nR _) Dd rfl;have p7:=ay e3;have s6:wo.1.size<=wr.1.size:=d7.o.size;have p8:q.length=k:=o7.o;have s7:=ay (qEC (q:=q) (xs:=xs) (m:=m) (by rw[<-b9.o];exact d9));have w5:k<=1000:=Oo;generalize xs.getD m 0=xv at *;clear p6 e3;have h5:=ay p8;clear p8;go_wp2_with (first
     |(at_builtin;refine wpList_append_own _ rfl _ _ 24 rfl wr.1.size 3 i0 (ai 0) 1 8 Tryz.underlying24 hi l0 l1 l2 rfl Dd (.slice (some (az wr.1.size 0)) 0 0) 0 [] rfl p7.o ad k c (q.map ai) rfl (by rw[lM,h5.o];omega) s5.o (λu hu=>by obtain⟨x,_,rfl⟩:=List.mem_map.1 hu;rfl) Um Oo Ss ?_;intro v55 p9 b0 V _;have e4:p9.ownsRow wr.1.size 3 1 v55 k (q.map ai):=(by simpa using b0);have e5:Bl wr p9:=((bJ _ wr).alloc (nR _) (.cells #[] 3)).grown V Ss (λk hk=>(p7.o.lt k hk).1);have q0:=e5.size;clear b0 V)
     |(at_builtin;refine wpList_append_lies _ rfl _ _ 24 rfl wr.1.size 3 i0 (ai 0) 1 8 Tryz.underlying24 hi l0 l1 l2 rfl Dd v55 _ _ rfl (e4.alloc _) (az _ 0) 1 1 [ai xv] rfl rfl (qH _ _ _) (λu hu=>by simp at hu;subst hu;rfl) Dd Um Oo Sy _ rfl ?_;intro g4 g5 k3 U a3 k4 k5;have M:Bl wr k3:=(e5.alloc q0 _).grown a3 Sy (λk hk=>(e4.lt k hk).1);have t5:=M.size;have b1:k3.ownsRow wo.1.size 24 1 c7 ((nxL (nxJ tl o) L i).length+m) a7:=by { have:=(d8.o.below M).own;rw[hlen]at this;exact this })
     |(at_builtin;refine wpList_append_lies _ rfl _ _ 23 rfl wo.1.size 24 iS sn 1 24 Tryz.underlying23 hj q8 r3 r4 rfl Dd c7 _ a7 rfl (b1.alloc _) (az _ 0) 1 1 [.slice (some (az g4 0)) (k+1) g5] rfl rfl (qH _ _ _) (λu hu=>by simp at hu;subst hu;rfl) Dd Um Oo Sy _ rfl ?_;intro s8 s9 k6 b7 I k7 k8)
     |fail)
    have HN:Hh (∃q2,Bl wo k6/\RQ k6 wo.1.size (.slice (some (az s8 0)) ((nxL (nxJ tl o) L i).length+m+1) s9) q2 (nxL (nxJ tl o) L i++mxL q xs (m+1))/\k6.ownsRow wm.1.size 3 1 (.slice (some (az gx 0)) nx cx) nx (xs.map ai)):=ay (by
     have q3:=d8.o.below M;have q4:k3.ownsRow wo.1.size 3 1 (.slice (some (az g4 0)) (k+1) g5) (q++[xv]).length ((q++[xv]).map ai):=by
      rw[lA,lS,h5.o,mA];exact qF U s6
     have t0:∀j,j<(nxL (nxJ tl o) L i++mxL q xs m).length->∀g,(a7.getD j undef).ownBlock=some g->(Value.slice (some (az g4 0)) (k+1) g5).ownBlock≠some g:=λj hj g h1 h2=>by
      have a1:=((d8.o.each j hj).lt g h1).2;have a2:=(U.lt g h2).1;omega
     refine⟨a7++[.slice (some (az g4 0)) (k+1) g5],(ji (bt d7.o M) _).grown I Sy (λq hq=>(b1.lt q hq).1),?_,?_⟩;rw[s7.o,<-List.append_assoc];have:=q3.step q4 t0 (by rw[hlen];exact b7) I;exact this;have e6:=qB j6.o M;refine qC e6 λg hg=>?_;obtain⟨cur,q5⟩:=qN e6 hg;exact zR I (e6.lt g hg).2 (own_ne b1 ⟨cur,q5⟩ Dd))
    clear b7 I k7 k8 U a3 k4 k5 b1 M e5 e4;go_roundw;exact⟨m+1,_,Oo,Gg,rfl,HN⟩;exact Im
   obtain rfl:m=nx:=Oo;have i3:¬((m:Int)<(m:Int)):=Oo;have g6:Hh (RQ wr wo.1.size c7 a7 (nxL (nxJ tl o) L (i+1))):=ay (by
    rw[a9.o];have:=d8.o;unfold mxL at this;rw[b9.o,tL]at this;exact this)
   have t1:=ay (n8.o (i+1));have k9:(nxL (nxJ tl o) L (i+1)).length=(nxL (nxJ tl o) L i).length+m:=by rw[a9.o,lA,lM,<-b9.o]
   obtain⟨av,cv,ev,-,-⟩:=g6.o.rs.sl;rw[k9]at ev;subst ev;clear d8 j6 hlen;by_cases t6:(nxL (nxJ tl o) L i).length+m<=10000
   ·have q9:¬((10000:Int)<(((nxL (nxJ tl o) L i).length+m:Nat):Int)):=Oo;have HN:Hh (∃un,Bl wo wr/\RQ wr wo.1.size (.slice av ((nxL (nxJ tl o) L i).length+m) cv) un (nxL (nxJ tl o) L (i+1))/\(nxL (nxJ tl o) L (i+1)).length<=10000):=ay ⟨_,d7.o,g6.o,Oo⟩;clear g6 k9;generalize (nxL (nxJ tl o) L i).length+m=tot at *;go_wp2_with fail;go_roundw;exact⟨i+1,_,Oo,Gg,rfl,HN⟩;exact Im
   have q9:((10000:Int)<(((nxL (nxJ tl o) L i).length+m:Nat):Int)):=Oo;have c9:smJ tl o no=false:=i5.o.2.2 k no d2 (by have:=t1.o;omega);have q6:=ay c9;clear k9 g6 c9;generalize (nxL (nxJ tl o) L i).length+m=tot at *;go_wp2_with fail;go_ret2;exact⟨_,by rw[l8.o,q6.o];rfl,by rw[l9.o,q6.o];exact λ_ _=>⟨_,0,rfl,Or.inl rfl⟩,bt i7.o (ji d7.o _)⟩
  obtain rfl:i=nl:=Oo;have i2:¬((i:Int)<(i:Int)):=Oo;obtain⟨av,cv,ev,-,-⟩:=d4.o.rs.sl;subst ev;have t2:Hh (Fz w.1.size (λW=>ISSn W (.slice av (nxL (nxJ tl o) L i).length cv) (lvJ tl o (k+1))) wr):=ay (by
   rw[d3.o];exact(d4.o.fz.mono i7.o.size).imp λW hW=>hW.issn λj hj=>by
    have hm:(nxL (nxJ tl o) L i).getD j []∈lvJ tl o (k+1):=by rw[d3.o,gD,gE hj];exact gM _
    have:=m8.o (k+1) _ hm;omega)
  have q7:Hh (smJ tl o (k+1)=true/\vis+(nxL (nxJ tl o) L i).length=viJ tl o (k+1)):=ay ⟨by rw[i5.o.2.1,n5.o,Bool.true_and];exact decide_eq_true (by rw[d3.o];exact s2),by rw[i6.o.2.1,n6.o,d3.o]⟩;have t3:=ay (bt n7.o a6.o);clear d4 a6 o3;generalize (nxL (nxJ tl o) L i).length=tot at *;have t7:vis+tot<=100000000:=Oo;go_wp2_with fail;go_roundw;exact⟨k+1,vis+tot,_,Oo,Gg,by first|rfl|go_num|(rw[Int.natCast_add]),rfl,ay ⟨q7.o.1,q7.o.2,t2.o,t3.o⟩⟩;exact Im
 obtain rfl:k=no:=Oo;have i1:¬((k:Int)<(k:Int)):=Oo;obtain⟨a4,K,b8,a5⟩:=O.o;have HF:Hh (smJ tl o k=true/\vis=viJ tl o k/\Fz w.1.size (λW=>ISS W vl (lvJ tl o k)) wr/\Bl w wr):=ay ⟨a4,K,b8.imp λ_ h=>h.iss,bt n3.o a5⟩;clear O a4 K b8 a5;go_wp2_with fail;go_ret2;obtain⟨h1,h2,h3,h4⟩:=HF.o;exact⟨_,by rw[l8.o,h1,if_pos rfl,<-h2];rfl,by rw[l9.o,h1,if_pos rfl];exact h3,h4⟩
theorem Sd.D.pre{s:Sd}{q:LI}(h:s.D q)(I:p <+:q):s.D p:=by
 rcases h with rfl|⟨r,K,h⟩;exact Or.inl (List.prefix_nil.1 I);exact Or.inr ⟨r,K,I.trans h⟩
theorem Hld.pre{I:List Sd}(h:Hld I (p++[v])):Hld I p:=λs hs=>by
 have K:=h s hs;rw[jO]at K;exact K.pre (List.prefix_append _ _)
theorem qFW{I:List Sd}(K:∀s∈I,s.Ok){g:Sd}(O:g∈I)(U:g.H p.length=true)(h:Hld I (p++[v])):v∈xf I p:=by
 have V:=h.pre;have key:∀s∈I,s.H p.length=true->v∈s.N (prt s.H p):=λs hs M=>by
  have h1:=h s hs;rw[jO,if_pos M]at h1;exact((K s hs).tm.mem (prt s.H p) (V s hs) v).2 h1
 rw[ZS K O V U];unfold vN;exact List.mem_filter.2 ⟨key g O U,(jP _ _ _).2 key⟩
theorem qA8{I:List Sd}(K:∀s∈I,s.Ok):∀n,(∀j,j<n->∃g∈I,g.H j=true)->∀q:LI,q∈yP (xf I) [] n↔q.length=n/\Hld I q
 |0,_,q=>by
  show q∈[[]]↔_;rw[List.mem_singleton];refine⟨?_,λh=>List.eq_nil_of_length_eq_zero h.1⟩;rintro rfl;exact⟨rfl,λs _=>Or.inl (by unfold prt;rfl)⟩
 |n+1,hH,q=>by
  have ih:=qA8 K n λj hj=>hH j Oo;show q∈(yP (xf I) [] n).flatMap (λq=>(xf I q).map λv=>q++[v])↔_;rw[List.mem_flatMap];constructor;rintro⟨p,hp,hq⟩;obtain⟨v,hv,rfl⟩:=List.mem_map.1 hq;obtain⟨M,O⟩:=(ih p).1 hp;exact⟨by rw[lA,M];rfl,O.snoc K hv⟩;rintro⟨M,O⟩;rcases List.eq_nil_or_concat q with rfl|⟨p,v,rfl⟩;simp at M;rw[List.concat_eq_append]at M O ⊢;rw[lA,lS]at M;have U:p.length=n:=Oo;obtain⟨g,hg,V⟩:=hH n Oo;exact⟨p,(ih p).2 ⟨U,O.pre⟩,List.mem_map.2 ⟨v,qFW K hg (by rw[U];exact V) O,rfl⟩⟩
theorem qA9:∀{a b:LI},a.length=b.length->qE a b<0->∀x y,qE (a++[x]) (b++[y])<0
 |[],[],_,h,_,_=>by simp[qE]at h
 |a::l,b::l2,hl,h,x,y=>by
  simp only[List.length_cons,Nat.add_right_cancel_iff]at hl;rw[List.cons_append,List.cons_append];unfold qE at h ⊢;split at h
  ·rename_i h1;rw[if_pos h1];exact h
  rename_i h1;rw[if_neg h1];split at h
  ·rename_i h2;rw[if_pos h2];exact h
  rename_i h2;rw[if_neg h2];exact qA9 hl h x y
theorem Jn:∀(a:LI) {x y:Int},x<y->qE (a++[x]) (a++[y])<0
 |[],x,y,h=>by simp[qE,h]
 |a::l,x,y,h=>by
  rw[List.cons_append,List.cons_append];unfold qE;rw[if_neg Oo,if_neg Oo];exact Jn l h
theorem qC5{I:List Sd}(K:∀s∈I,s.Ok):∀n,SL (yP (xf I) [] n)
 |0=>List.pairwise_singleton _ _
 |n+1=>by
  have M:=qC5 K n;show((yP (xf I) [] n).flatMap λq=>(xf I q).map λv=>q++[v]).Pairwise _;refine List.pairwise_flatMap.2 ⟨λq hq=>?_,?_⟩;have O:=XG K (p:=[]) (λs _=>Or.inl (by unfold prt;rfl)) n q hq;exact List.pairwise_map.2 ((qD5 K O).imp λh=>Jn q h);refine List.Pairwise.imp_of_mem (λ{a b} ha hb h x hx y hy=>?_) M;obtain⟨u,-,rfl⟩:=List.mem_map.1 hx;obtain⟨v,-,rfl⟩:=List.mem_map.1 hy;have U:=kl _ _ n a ha;have lb:=kl _ _ n b hb;exact qA9 Oo h u v
theorem gdR{α:Type}{l:List α}{d:α}(h:i<l.length):l.getD i d=l[i]:=by rw[gD,gE h,Option.getD_some]
theorem yC{α:Type}{l:List α}{d:α}(h:i<l.length):l.getD i d∈l:=by rw[gdR h];exact gM h
theorem ZX(h:o.Pairwise (·< ·))(f:Int->Int)(hv:v∈o):vlF o (o.map f) v=f v:=by
 obtain⟨i,hi,rfl⟩:=gO hv;have e:=jS o (o.map f) i h hi;rw[gdR hi,gdR (by rw[lM];exact hi),List.getElem_map]at e;exact e
theorem VE{vs:LI}(h:o.Pairwise (·< ·))(hs:∀x∈vs,x∈o)(f:Int->Int):qI o vs (o.map f)=vs.map f:=List.map_congr_left λv hv=>ZX h f (hs v hv)
theorem jB{r:LI}(h:o.Pairwise (·< ·))(hl:r.length=o.length):o.map (vlF o r)=r:=by
 refine List.ext_getElem (by rw[lM,hl]) λi K I=>?_;rw[List.getElem_map];have hi:i<o.length:=Oo;have e:=jS o r i h hi;rw[gdR hi,gdR I]at e;exact e
theorem VF{vs:LI}(ho:o.Pairwise (·< ·))(hv:vs.Pairwise (·< ·))(hs:∀x∈vs,x∈o):shr o vs=vs:=
 YH (Q7 ho) hv λx=>⟨vC,λh=>List.mem_filter.2 ⟨hs x h,decide_eq_true h⟩⟩
theorem qFk{vs:LI}(ho:o.Pairwise (·< ·))(I:p.length=o.length):prt (qO o vs) p=qI o (shr o vs) p:=by
 rw[<-qBP ho];unfold prt atP plc;rw[I,List.map_map];rfl
structure qEV(tl:List TbV)(o:LI):Prop where
 asc:o.Pairwise (·< ·)
 cov:Qq tl o
 vs:∀t∈tl,t.vs.Pairwise (·< ·)/\∀x∈t.vs,x∈o
 len:∀t∈tl,∀r∈t.rows,r.length=t.vs.length
theorem qDC{t:TbV}(ho:o.Pairwise (·< ·))(hv:t.vs.Pairwise (·< ·))(hs:∀x∈t.vs,x∈o)(hl:∀r∈t.rows,r.length=t.vs.length)(O:0<t.rows.length)(hp:p.length=o.length):
 (sdO o (sdT o t)).D (prt (sdO o (sdT o t)).H p)↔qI o t.vs p∈t.rows:=by
 have e:prt (sdO o (sdT o t)).H p=qI o t.vs p:=by
  show prt (qO o (shr o t.vs)) p=_;rw[qFk ho hp,VF ho hv hs,VF ho hv hs]
 have U:∀r,r∈(sdO o (sdT o t)).rs↔r∈t.rows:=λr=>by
  show r∈srt (t.rows.map (qI t.vs (shr o t.vs)))↔_;rw[(zu _ _ (nR _)).2,VF ho hv hs,List.mem_map];constructor;rintro⟨s,I,rfl⟩;rw[show qI t.vs t.vs s=s from jB hv (hl s I)];exact I
  exact λI=>⟨r,I,jB hv (hl r I)⟩
 rw[e];have K:(qI o t.vs p).length=t.vs.length:=yT _ _ _;constructor
 ·rintro (I|⟨r,I,h2⟩);have M:t.rows[0]∈t.rows:=gM O;have V:=hl _ M;rw[<-K,I]at V;rw[I,<-List.eq_nil_of_length_eq_zero V];exact M;have M:=(U r).1 I;rw[h2.eq_of_length (by rw[K,hl r M])];exact M
 exact λI=>Or.inr ⟨_,(U _).2 I,List.prefix_rfl⟩
theorem qBK(h:qEV tl o)(p:LI):p∈lvJ tl o o.length↔p.length=o.length/\∀t∈tl,qI o t.vs p∈t.rows:=by
 have hL:=qA8 (kE tl o) o.length (λj V=>by
  obtain⟨t,I,M⟩:=h.cov j V;refine⟨sdO o (sdT o t),List.mem_map_of_mem (List.mem_map_of_mem I),?_⟩;show qO o (shr o t.vs) j=true;rw[uE V];exact decide_eq_true M) p
 unfold lvJ nxJ;by_cases O:xC tl=true;rw[if_pos O];unfold xC at O;obtain⟨t,I,M⟩:=List.any_eq_true.1 O;have h2:t.rows=[]:=List.length_eq_zero_iff.1 (of_decide_eq_true M);refine⟨(λU=>by cases U),λU=>?_⟩;have h4:=U.2 t I;rw[h2]at h4;cases h4
 rw[if_neg O,hL];refine and_congr_right λhp=>?_;have K:∀t∈tl,0<t.rows.length:=λt I=>by
  refine Nat.pos_of_ne_zero λe=>O ?_;unfold xC;exact List.any_eq_true.2 ⟨t,I,decide_eq_true e⟩
 constructor;exact λM t I=>(qDC h.asc (h.vs t I).1 (h.vs t I).2 (h.len t I) (K t I) hp).1 (M _ (List.mem_map_of_mem (List.mem_map_of_mem I)));intro M s hs;unfold uD at hs;rw[List.map_map]at hs;obtain⟨t,I,rfl⟩:=List.mem_map.1 hs;exact(qDC h.asc (h.vs t I).1 (h.vs t I).2 (h.len t I) (K t I) hp).2 (M t I)
theorem ZY(h:qEV tl o)(f:Int->Int):o.map f∈lvJ tl o o.length↔∀t∈tl,t.vs.map f∈t.rows:=by
 rw[qBK h];constructor;intro K t I;rw[<-VE h.asc (h.vs t I).2 f];exact K.2 t I;intro K;refine⟨lM _,λt I=>?_⟩;rw[VE h.asc (h.vs t I).2 f];exact K t I
theorem qFl:SL (lvJ tl o o.length):=by
 unfold lvJ;split;exact List.Pairwise.nil;exact qC5 (kE tl o) _
def Agr(bi bp r s:LI):Prop:=∀v,v∈bi->v∈bp->vlF bi r v=vlF bp s v
theorem qEW{m:Nat}{par:Nat->Nat}{B:Nat->LI}{R:Nat->LL}
 (hB:∀i,(B i).Pairwise (·< ·)) (hL:∀i,i<=m->∀r∈R i,r.length=(B i).length)
 (hp:∀i,i<m->i<par i/\par i<=m)
 (rip:∀j,j<m->∀l,j<l->l<=m->∀v,v∈B j->v∈B l->v∈B (par j))
 (c1:∀i,i<m->∀r∈R i,∃s∈R (par i),Agr (B i) (B (par i)) r s)
 (c2:∀i,i<m->∀s∈R (par i),∃r∈R i,Agr (B i) (B (par i)) r s):
 ∀n,n<=m->∀i,m-n<=i->i<=m->∀r∈R i,∃f:Int->Int,(B i).map f=r/\∀l,m-n<=l->l<=m->(B l).map f∈R l:=by
 intro n;induction n with
 |zero=>
  intro _ i h1 I r hr;have e:i=m:=Oo;subst e;have e2:=jB (hB i) (hL i I r hr);exact⟨_,e2,λl h3 h4=>by rw[show l=i by omega,e2];exact hr⟩
 |succ n ih=>
  intro hn i a6 a4 r hr;obtain⟨j,a7⟩:=Ex (m-(n+1));have e1:m-n=j+1:=Oo;rw[e1]at ih;have ih:=ih Oo;rw[<-a7]at a6 ⊢;obtain⟨p1,p2⟩:=hp j Oo;have key:∀(f:Int->Int) (V:LI),V∈R j->Agr (B j) (B (par j)) V ((B (par j)).map f)->∃g:Int->Int,(B j).map g=V/\∀l,j+1<=l->l<=m->(B l).map g=(B l).map f:=by
   intro f V K ha;refine⟨λv=>if v∈B j then vlF (B j) V v else f v,?_,λl h1 I=>List.map_congr_left λv hv=>?_⟩;exact Eq.trans (List.map_congr_left λv hv=>if_pos hv) (jB (hB j) (hL j Oo V K));by_cases e:v∈B j;have a5:=rip j Oo l Oo I v e hv;rw[if_pos e,ha v e a5,ZX (hB _) f a5];rw[if_neg e]
  by_cases e:i=j
  ·subst e;obtain⟨s,hs,ha⟩:=c1 i Oo r hr;obtain⟨f,a3,M⟩:=ih (par i) Oo p2 s hs;obtain⟨g,O,U⟩:=key f r hr (by rw[a3];exact ha);refine⟨g,O,λl h1 I=>?_⟩;by_cases e2:l=i;rw[e2,O];exact hr;rw[U l Oo I];exact M l Oo I
  obtain⟨f,a3,M⟩:=ih i Oo a4 r hr;obtain⟨V,K,ha⟩:=c2 j Oo _ (M (par j) Oo p2);obtain⟨g,O,U⟩:=key f V K ha;refine⟨g,by rw[U i Oo a4,a3],λl h1 I=>?_⟩;by_cases e2:l=j;rw[e2,O];exact K;rw[U l Oo I];exact M l Oo I
end Go.Proofs.YtcnfapnfmnolbaaGreat
