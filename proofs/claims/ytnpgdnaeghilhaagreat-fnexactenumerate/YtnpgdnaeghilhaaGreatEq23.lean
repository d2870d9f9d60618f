import Derived.Laws.IdiomRangeMap
import Derived.Test.YtnpgdnaeghilhaaGreatEq21
import Derived.Test.YtnpgdnaeghilhaaGreatEq22
import Derived.BigRegion
set_option maxHeartbeats 40000000
set_option maxRecDepth 1000000
namespace Go.Proofs.YtnpgdnaeghilhaaGreat
open Go.Proofs.Tryz Go.RowKit Go.Maps
section
variable {k:Int}{hd o ps hl hs:LI}{bs ks:LL}{T tl:List TbV}{B b m r s n K I z0 z1 m2 z2 j:Nat}{v V O vt vh v0 v1 v2 v3:Value}{W W' w w0 w2 w3:World}{R:Value->Option (DataW Unit×List MemPlace)}{D:DataW Unit}{left:Lit->Bool}{ws:LP}
def TdE(w:World)(hd:LI)(ks:LL)(e:Ending)(w':World):Prop:=∃vR vW,e=.returned (.tuple #[vR,vW])/\∃(us:LV) (rows ss:LL),RQ w' w.1.size vR us rows/\(rows.Pairwise λa b=>¬cmpL b a<0)/\rows.Perm (ss.map (qM hd))/\ss.Nodup/\(∀a:LI,a∈ss↔a∈ks)/\Bl w w'
theorem U3 w W{ss:LL}l(hb:Bl w W)(h:WF W w.1.size v l)(hl:l.map Prod.fst=ss.map (qM hd))(hs:ss.Nodup)(hk:∀a:LI,a∈ss↔a∈ks)(hn:ss.length<=20000)(hh:hd.length<=1000):Cl 92 #[v] W λe w'=>∃K M,e=.returned (.tuple #[K,M])/\TdE w hd ks (.returned (.tuple #[K,M])) w':=by
 have⟨es,hq,V⟩:=h;have a3:es.length=ss.length:=by
  have h1:=congrArg List.length hl;rw[<-V]at h1;simpa using h1
 have I:wls es=ss.map (qM hd):=by
  rw[<-hl,<-V,List.map_map];rfl
 refine(Yf W v hq (λe hm=>?_) Oo hb.size).mono ?_;have:e.2.1∈wls es:=dF hm;rw[I]at this;obtain⟨a,-,e1⟩:=cC.1 this;rw[<-e1];unfold qM;rw[lM];omega;rintro e w' ⟨O,K,M,rfl,hp,hs',hr,-,-,hb'⟩;refine⟨K,M,rfl,K,M,rfl,wus O,wls O,ss,hr,List.pairwise_map.2 hs',?_,hs,hk,hb.trans hb'⟩;rw[<-I];exact hp.map _
theorem WF.keep{l}(h:WF W B v l)(M:∀(k:Nat) (c:AV) (t:TypeId),W.1[k]?=some (Obj.cells c t (0,0))->W'.1[k]?=W.1[k]?):WF W' B v l:=by
 have⟨es,hq,e⟩:=h;have K:∀{x:Value} {t:TypeId} {s n:Nat} {xs:LV},W.ownsRow B t s x n xs->W'.ownsRow B t s x n xs:=λ{x t s n xs} I=>qD I λg O=>by
  have⟨cur,V⟩:=qK I O;exact M g _ _ V
 exact⟨es,⟨K hq.own,λx I=>K (hq.each x I),hq.ap⟩,e⟩
theorem qI6{t}{xs:LV}(h:W.ranges Tryz.prog 137 R b r m D left K)(ho:W.ownsRow B t s v n xs):some b≠v.ownBlock/\some r≠v.ownBlock:=by
 obtain⟨es,clock,since,seen,c0,M,-,-,-,O,-⟩:=h;constructor;intro e;have⟨cur,I⟩:=qK ho e.symm;rw[M]at I;cases I
 intro e;have⟨cur,I⟩:=qK ho e.symm;rw[O]at I;cases I
theorem qFq(h:W.ranges Tryz.prog 137 R b r m D left I)(M:W.grownBy W' (some r)):∀(k:Nat) (c:AV) (t:TypeId),W.1[k]?=some (Obj.cells c t (0,0))->W'.1[k]?=W.1[k]?:=λk c t K=>M.block k (dK.1 K).1 λe=>by
 obtain⟨es,clock,since,seen,c0,V,-,-,-,O,-⟩:=h;obtain rfl:=Option.some.inj e;rw[O]at K;cases K
theorem qFr vh(hh:IS w vh hd)(M:hd.length<=1000):
 Cl 69 #[.map none,vh] w (TdE w hd []):=by
 have⟨iM,hi,O,V,a7⟩:=aX Tryz.infoWt;obtain⟨a4,k4,rfl,-⟩:=hh;have a8:=λW:World=>run_range_nilMap W _ _ _ Tryz.underWo;have a9:∀(W:World) ty,(Instr.next (.pointer (some (az W.1.size 0))) false ty).run Tryz.prog (W.alloc (.mapIter none 0 #[] 0))=_:=λW ty=>run_next_nilMap _ _ 0 0 _;have hle:=λW ty=>Maps.len_nil (w:=W) Tryz.underWo ty;go_enter func69,ntmps69;go_upto_region 2 with (at_make;refine wpList_make_own _ rfl _ _ 135 rfl _ 140 _ _ 2 underlying135 hi O V _ _ _ 0 rfl rfl rfl ?b2 ?b3 eA ?_)
 case b2=>omega
 case b3=>unfold maxLen;omega
 intro w0 K I;have a5:Hh (Bl w w0):=ay (eB.grown I eA (λj hj=>by cases hj));have a6:Hh (WF w0 w.1.size (sZ w.1.size 0 0 0) []):=ay ⟨[],⟨K,λe he=>(by cases he),List.Pairwise.nil⟩,rfl⟩;clear K I;go_wp2_with fail;refine wp_loop_rounds 1 ?_;rw[rounds_succ];go_wp2_with (go_at_call 92;apply ((λW hW=>U3 w W _ (bt a5 hW) (a6.o.below hW) rfl List.nodup_nil (λ_=>Iff.rfl) Ss M) _ aK).mono;rintro e w' ⟨vR,vW,rfl,hE⟩);go_ret2;exact hE
theorem qEl c D vh(hW:Wm qP w c ks D)(hh:IS w vh hd)(h3:hd.length<=1000)(e0:∀y∈hd,0<=y/\y<6)(hn:ks.length<=20000):
 Cl 69 #[.map (some c),vh] w (TdE w hd ks):=by
 have⟨iM,hi,e1,e2,e3⟩:=aX Tryz.infoWt;have h4:=ay hh;obtain⟨a4,k4,rfl,-⟩:=hh;have e4:=ay h3;have h5:=ay e0;have HW:=ay hW;have hsz:=hW.size;clear e0;go_enter func69,ntmps69;go_upto_region 2 with (first|at_len;refine wpList_len_own _ rfl _ 111 rfl _ 3 Tryz.underWo _ c _ D rfl hW.own ?_;rw[hsz]|at_make;refine wpList_make_own _ rfl _ _ 135 rfl _ 140 _ _ 2 underlying135 hi e1 e2 _ _ _ _ rfl rfl rfl ?b2 ?b3 eA ?_)
 case b2=>rw[e3];omega
 case b3=>unfold maxLen;omega
 intro w0 a5 M;have a6:Hh (Bl w w0):=ay (eB.grown M eA (λj hj=>by cases hj));have e5:Hh (WF w0 w.1.size (sZ w.1.size 0 0 ks.length) []):=ay ⟨[],⟨a5,λe he=>(by cases he),List.Pairwise.nil⟩,rfl⟩;have a7:=(hW.bel a6).own;clear hW a5 M hsz;go_wp2_with (first
  |(at_range;refine wpList_range_own _ rfl _ 111 rfl _ 3 Tryz.lawA Tryz.underWo _ c _ D rfl a7 ?_;intro w5 c8 d1 h6)
  |go_in)
 try go_frame
 have e6:Hh (Cg ks (Maps.has D) []/\WF w5 w.1.size (sZ w.1.size 0 0 ks.length) []/\([]:List (LI×Int)).map Prod.fst=([]:LL).map (qM hd)/\Bl w w5/\w0.1.size<w5.1.size):=ay ⟨Cg.start HW,e5.o.below (eB.grown d1 eA (λj hj=>by cases hj)),rfl,a6.o.grown d1 a6.o.size (λj hj=>by cases hj),Oo⟩;have h7:=ay a6.o.size;clear d1 h6 a7 e5 a6;go_loopw [6] (λu wr=>∃(left:Lit->Bool) (d2:Nat) (ss:LL) (l:List (LI×Int)) (vs:Value),vs=u/\wr.ranges Tryz.prog 137 qP c w0.1.size ks.length D left d2/\Hh (Cg ks left ss/\WF wr w.1.size vs l/\l.map Prod.fst=ss.map (qM hd)/\Bl w wr/\w0.1.size<wr.1.size)) (λ_ wr=>wr.rangeLeft c w0.1.size);exact⟨_,_,[],[],_,rfl,c8,e6⟩;clear e6 c8;obtain⟨left,d2,ss,l,vs,rfl,a8,HH⟩:=hrel;have i5:ss.length<=ks.length:=kq (f:=id) HH.1.nd λa ha=>⟨a,HH.1.sub a ha,rfl⟩;have i7:l.length<=20000:=by
  have:l.length=ss.length:=by simpa using congrArg List.length HH.o.2.2.1
  omega
 go_wp2_with (first
  |(at_next;refine wpList_next_ranges _ rfl _ rfl _ Tryz.lawA _ id ai (λkey kl hk=>⟨key,rfl⟩) (λv y hv=>uk hv) c _ _ D _ _ rfl a8 ?_ ?_)
  |go_in)
 .intro i8 hl0;have KS:Hh (Cl 92 #[vs] wr λe w'=>∃vR vW,e=.returned (.tuple #[vR,vW])/\TdE w hd ks (.returned (.tuple #[vR,vW])) w'):=ay (U3 w _ l HH.2.2.2.1 HH.2.1 HH.2.2.1 HH.1.nd (λa=>⟨HH.1.sub a,λh=>HH.1.rest a h (hl0 _)⟩) Oo e4);clear HH a8 hl0;go_wp2_with (go_at_call 92;apply KS.o.mono;rintro e w' ⟨vR,vW,rfl,hE⟩);go_ret2;exact hE
 intro key cc kl ya yb w6 i6 c9 e7 hv e8 O e9 hg1 hs1 d3;obtain⟨a,ha,f7,rfl,hs⟩:=HH.1.some _ e7;obtain rfl:key=asL a:=Tryz.lawA.inj c9 (yP f7);obtain⟨g1,g2,g3,g4,g5⟩:=HH.o;have h8:=ay (g1.step HW.o.ok ha hs);have h9:=ay a8;have i0:=ay e9;have f8:Bl w w6:=g4.grown hg1 g4.size (λj hj=>by cases hj;exact h7);have f9:=g2.keep (qFq a8 hg1);clear a8 e9 c9 e7 hv e8 hs HH g1 g2 g4;have d4:=ay f7.1;have i3:Hh (asL a=asV λi=>a.getD i 0):=ay rfl;unfold asL at d3 |-;generalize hf:(λi=>a.getD i 0)=f at *;unfold asV at d3 |-;go_upto_region 5 with fail;have a9:Bl w6 (w6.alloc (.cells #[ai (f 0),ai (f 1),ai (f 2),ai (f 3),ai (f 4),ai (f 5)] 137)):=aK;have d5:=six (w:=w6) f 137;have b1:=bt f8 a9;have i9:w0.1.size<(w6.alloc (.cells #[ai (f 0),ai (f 1),ai (f 2),ai (f 3),ai (f 4),ai (f 5)] 137)).1.size:=by rw[aM,hs1];omega
 rw[hs1]at d5;generalize w6.alloc (.cells #[ai (f 0),ai (f 1),ai (f 2),ai (f 3),ai (f 4),ai (f 5)] 137)=W7 at *;have g8:IS W7 (sZ wr.1.size 0 6 6) a:=⟨_,6,by rw[d4.o],Or.inr ⟨_,0,rfl,λj hj=>by
  rw[cU,d5.cell j (O1 d4.o),<-hf]⟩⟩
 have KV:Hh (Cl 91 #[sZ wr.1.size 0 6 6,.slice a4 hd.length k4] W7 λe w'=>∃b9 k9,e=.returned (.slice b9 hd.length k9)/\w'.ownsRow W7.1.size 3 1 (.slice b9 hd.length k9) (qM hd a).length ((qM hd a).map ai)/\Bl W7 w'):=ay ((xZ _ _ _ a _ g8 (h4.o.below b1) e4 (λy hy=>by have:=h5 y hy;rw[d4.o];omega)).mono (by
  rintro e w' ⟨v,rfl,ho,hb⟩;obtain⟨b9,k9,rfl⟩:=qG ho;rw[UN]at ho |-;exact⟨b9,k9,rfl,by rw[show(qM hd a).length=hd.length by unfold qM;simp];exact ho,hb⟩))
 obtain⟨xs,V,b7⟩:=(f9.below a9).row b1.size;change Hh _ at b7;have HR:=ay (xc O (a9.block _ O.owns.lt) (a9.block _ O.lt));have h0:=ay b1;have j0:=b1.size;clear a9 f8 f9 O hg1 d3 g8 d5 b1 hf i3;go_wp2_with (first
  |(at_builtin;refine wpList_append_lies _ rfl _ _ 135 rfl _ 140 _ _ 2 _ underlying135 hi e1 e2 e3 rfl Dd vs _ _ rfl ((qB V K).alloc _) (az _ 0) 1 1 _ rfl rfl (qEE) (λu hu=>by simp at hu;rcases hu with rfl|rfl <;> rfl) Dd Um Oo (by simp;have:=K.size;omega) _ rfl ?_;intro g10 i4 b8 a3 I d6 d7)
  |(go_at_call 91;apply KV.o.mono;rintro e w8 ⟨b9,k9,rfl,h2,K⟩)
  |fail)
 have HE:Hh (WF b8 w.1.size (sZ g10 0 (l.length+1) i4) (l++[(qM hd a,cc)])/\Bl w b8/\w0.1.size<b8.1.size):=ay ⟨b7 _ _ _ _ _ _ _ K h2 I a3,((bt h0 K).alloc (O1 K.size) _).grown I (by simp;have:=K.size;omega) (λk hk=>(V.lt k hk).1),by have h1:=I.size;have:=K.size;rw[aM]at h1;omega⟩;have d8:=xc HR (K.block _ HR.o.owns.lt) (K.block _ HR.o.lt);have d9:=qI6 d8 (qB V K);have d0:=(d8.alloc _).kept I d9.1 d9.2;clear a3 I d6 d7 V b7 h2 K h0 d8 d9;go_roundw;exact⟨_,_,ss++[a],_,_,rfl,d0,ay ⟨h8,HE.1,(by rw[mA,mA,g3];rfl),HE.2.1,HE.2.2⟩⟩;rw[h9.o.left_eq,d0.left_eq];exact i0
theorem qAC{k}(h:Trr tl k bs ps T)(V:OA)m0(q1:OA)m1(q2:OA)(hx:TreX w0 W T (orT (bs.length:Int) ps++[(bs.length:Int)]) hl (.slice V m0 z0) (.slice q1 m1 z1) (.slice q2 m2 z2)):
 ∃g,(∃cur,W.1[g]?=some (.cells cur 58 (0,0)))/\Cl 68 #[.agg #[.slice V m0 z0,.slice q1 m1 z1,.slice q2 m2 z2]] W λe w'=>(∃v,e=.returned v)/\TreX w0 w' (jV bs ps T) (orT (bs.length:Int) ps++[(bs.length:Int)]) hl (.slice V m0 z0) (.slice q1 m1 z1) (.slice q2 m2 z2)/\KpG W.1.size g W w':=by
 have⟨rl',t1,t2⟩:=hx.tb;obtain⟨R,hR,-⟩:=h.go;have K:=hR.len;have a3:rl'.length=bs.length+1:=by rw[<-K,<-t2,lM]
 have a4:=kz h.par;have M:(orT (bs.length:Int) ps++[(bs.length:Int)]).length=bs.length+1:=by rw[lA,vB,a4];rfl
 have I:=hx.pa;rw[M]at I;obtain⟨g,z,hz⟩:∃g z,(.slice V m0 z0:Value)=sZ g 0 (bs.length+1) z:=by
  rcases t1.own.2 with ⟨-,e⟩|⟨g,cap,cur,e,-⟩;omega;exact⟨g,cap,by rw[e,a3]⟩
 obtain⟨gp,zp,a5⟩:∃g z,(.slice q1 m1 z1:Value)=sZ g 0 (bs.length+1) z:=by
  rcases I.2 with ⟨-,e⟩|⟨g,cap,cur,e,-⟩;omega;exact⟨g,cap,e⟩
 have hX:=hx;rw[hz]at t1 hX |-;rw[a5]at I hX |-;have O:=qK t1.own (g:=g) rfl;have⟨u1,u2⟩:=VW h.asc (vC h.par) hR _ eA;refine⟨g,O,(qBJ W g z T hx.bel ⟨rl',t1,t2⟩ K M I h.few (λi hi=>⟨qEj h.par hi,(vC h.par i hi).2⟩) (λn hn i hi=>((VW h.asc (vC h.par) hR n hn).1.ok i hi).tab) (λn hn i hi=>((qBK h.asc (vC h.par) u1 u2 n hn).1.ok i hi).tab)).mono ?_⟩;rintro e w' ⟨he,hT,hb,hK⟩;have mv:∀{x:Value} {n:Nat} {xs:LV},W.ownsRow w0.1.size 3 1 x n xs->w'.ownsRow w0.1.size 3 1 x n xs:=λ{x n xs} ho=>qD ho λq hq=>hK.block q (ho.lt q hq).2 λe=>by
  have⟨c1,h1⟩:=qK ho hq;have⟨c2,h2⟩:=O;rw[e,h2]at h1;simp at h1
 exact⟨he,⟨hT,mv hX.pa,mv hX.ho,hb⟩,hK⟩
theorem qFk{k}(h:Trr tl k bs ps T)(O:∀y∈hd,0<=y/\y<(k:Int))(K:hd.length<=1000)v(hb:Bl w0 w2)(hm:MsE (chT tl bs ps hd bs.length) w2 w3 v)(hv:IS w0 V hd):
 Cl 69 #[v,V] w3 λe w'=>∃I M,e=.returned (.tuple #[I,M])/\(∃us,RQ w' w0.1.size I us (srt ((qO tl (upR k)).map (qM hd))))/\Bl w0 w':=by
 have⟨hm,a3⟩:=hm;have h6:=h.six;have b3:=bt hb a3;have fin:∀ks:LL,(∀a,a∈ks↔(chT tl bs ps hd bs.length).Q z6 a)->∀e w',TdE w3 hd ks e w'->∃I M,e=.returned (.tuple #[I,M])/\(∃us,RQ w' w0.1.size I us (srt ((qO tl (upR k)).map (qM hd))))/\Bl w0 w':=by
  rintro ks hk e w' ⟨I,M,rfl,us,rows,ss,hq,hs,hp,hn,a4,hb'⟩;rw[qHa h O hp hs hn λa=>(a4 a).trans (hk a)]at hq;exact⟨I,M,rfl,⟨us,hq.base b3.size⟩,bt b3 hb'⟩
 rcases hm with ⟨rfl,a5⟩|⟨c,ks,D,rfl,hW,hk⟩;exact(qFr V (hv.below b3) K).mono λe w'=>fin _ (λa=>⟨λh=>(by cases h),λh=>absurd h (a5 a)⟩) e _;have hn:=h.fewB (λv hv=>O v ((h.top O).1 hv)) hW.nd λa ha=>by
  obtain⟨F,g1,-,g3⟩:=(hk a).1 ha;exact⟨F,g1,g3⟩
 exact(qEl c D V hW (hv.below b3) K (λy hy=>O1 (O y hy)) Oo).mono λe w'=>fin _ hk e _
theorem Vw{k}(h:Trr tl k bs ps T)(hh:∀y∈hd,0<=y/\y<(k:Int))(a4:hd.length<=1000)w0 w{I:OA}{M:OA}{O}{V:OA}(hx:TreX w0 w T (orT (bs.length:Int) ps++[(bs.length:Int)]) hl (.slice I K z0) (.slice M O z1) (.slice V m2 z2))(ht:ITs w0 vt tl)(hv:IS w0 vh hd)(hlen:hl.length=tl.length)(a7:tl.length<=1000)(a8:∀t∈tl,qW t=true):
 Cl 51 #[.agg #[.slice I K z0,.slice M O z1,.slice V m2 z2],vt,vh,rgV] w λe w'=>∃vR vW,e=.returned (.tuple #[vR,vW])/\(∃us,RQ w' w0.1.size vR us (srt ((qO tl (upR k)).map (qM hd))))/\Bl w0 w':=by
 obtain⟨W1,a3⟩:=Ex (w.alloc (.cells #[.slice I K z0,.slice M O z1,.slice V m2 z2] 93));have a9:Bl w W1:=by rw[a3];exact(bJ _ _).alloc (nR _) _
 have hX1:Bx3 93 W1 w.1.size (.slice I K z0) (.slice M O z1) (.slice V m2 z2):=by rw[a3];exact Bx3.made _ _ _ _ _
 obtain⟨g,b1,hR⟩:=qAC h I K M O V (hx.below a9);have KR:Hh (Cl 68 #[.agg #[.slice I K z0,.slice M O z1,.slice V m2 z2]] W1 λe w'=>(∃v,e=.returned v)/\TreX w0 w' (jV bs ps T) (orT (bs.length:Int) ps++[(bs.length:Int)]) hl (.slice I K z0) (.slice M O z1) (.slice V m2 z2)/\Bx3 93 w' w.1.size (.slice I K z0) (.slice M O z1) (.slice V m2 z2)):=ay (hR.mono (by
  rintro e w' ⟨h1,h2,h3⟩;refine⟨h1,h2,⟨(h3.block _ hX1.lt λe=>?_).trans hX1.blk⟩⟩;obtain⟨c1,e1⟩:=hX1.typ;obtain⟨c2,e2⟩:=b1;rw[e,e2]at e1;simp at e1))
 have KM:Hh (∀W,TreX w0 W (jV bs ps T) (orT (bs.length:Int) ps++[(bs.length:Int)]) hl (.slice I K z0) (.slice M O z1) (.slice V m2 z2)->Cl 70 #[.agg #[.slice I K z0,.slice M O z1,.slice V m2 z2],vt,vh,.iface 68 (.agg #[])] W λe w'=>∃v,e=.returned v/\MsE (chT tl bs ps hd bs.length) W w' v):=ay λW hX=>by
  obtain⟨rl,t1,t2⟩:=hX.tb;have h1:=V6 W (by rw[<-t2];exact t1.its) (qN hX.pa) (qN hX.ho) (ht.below hX.bel) (hv.below hX.bel) (qI1 h) (by rw[h.len];omega) hlen a7 a8 h.wf a4;rw[h.len]at h1;exact h1
 have KT:Hh (∀W2 W3 v,Bl w0 W2->MsE (chT tl bs ps hd bs.length) W2 W3 v->Cl 69 #[v,vh] W3 λe w'=>∃vR vW,e=.returned (.tuple #[vR,vW])/\(∃us,RQ w' w0.1.size vR us (srt ((qO tl (upR k)).map (qM hd))))/\Bl w0 w'):=ay λW2 W3 v hb hm=>qFk h hh a4 v hb hm hv;have t0:=hX1.c0;have t1:=hX1.c1;have t2:=hX1.c2;obtain⟨c9,ct,rfl,-⟩:=ht;obtain⟨ah,d0,rfl,-⟩:=hv;clear hx h hR b1 a8 hh hX1 a9 hlen a7 a4;generalize srt ((qO tl (upR k)).map (qM hd))=SR at *;generalize chT tl bs ps hd bs.length=CT,orT (bs.length:Int) ps++[(bs.length:Int)]=PR,tl.length=nt,hd.length=nd at *;unfold rgV;go_enter func51,ntmps51;go_upto_region 1 with fail;rw[<-a3];clear a3;go_upto_region 2 with (go_at_call 68;apply KR.o.mono;rintro e w2 ⟨⟨vu,rfl⟩,a5,a6⟩);have b7:=ay a5;have b8:=ay (KM _ a5);clear t0 t1 t2 a5;have t0:=a6.c0;have t1:=a6.c1;have t2:=a6.c2;go_wp2_with (first|go_at_call 70;apply b8.o.mono;rintro e w3 ⟨v3,rfl,b9⟩|go_at_call 69;apply (KT.o _ _ _ b7.o.bel b9).mono;rintro e w4 ⟨vR,vW,rfl,c7,c8⟩);go_ret2;exact⟨_,_,rfl,c7,c8⟩
structure Kd(q:Value->Prop)(t:TypeId)(n:Nat)(W:World)(p:Nat):Prop where
 ex:∃xs:AV,W.1[p]?=some (.cells xs t (0,0))/\∀j,j<n->∃u,xs[j]?=some u/\q u
section
variable {q:Value->Prop} {t t':TypeId} {n p p':Nat} {W W':World} {u:Value} {j:Nat}
theorem Kd.at(h:Kd q t n W p)(I:j<n):∃u,W.cell? (az p j)=some u/\q u:=by
 have⟨xs,K,M⟩:=h.ex;have⟨u,O,V⟩:=M j I;exact⟨u,by rw[eI K];exact O,V⟩
theorem Kd.free(h:Kd q t n W p)j:W.frozen? (az p j)=false:=by
 obtain⟨xs,I,-⟩:=h.ex;unfold World.frozen?;rw[I];simp
theorem Kd.to(h:Kd q t n W p)(hb:W'.1[p]?=W.1[p]?):Kd q t n W' p:=by
 have⟨xs,I,K⟩:=h.ex;exact⟨xs,hb.trans I,K⟩
theorem Kd.lt(h:Kd q t n W p):p<W.1.size:=by
 obtain⟨xs,K,-⟩:=h.ex;rcases dL p W.1.size with I|I;exact I;rw[dO I]at K;cases K
theorem Kd.set(h:Kd q t n W p)(O:q u):Kd q t n (W.setCell (az p j) u) p:=by
 have⟨xs,V,h2⟩:=h.ex;refine⟨_,eN V,λi hi=>?_⟩;have⟨v,I,h4⟩:=h2 i hi;by_cases e:j=i
 .subst e;have K:j<xs.size:=by
   rcases dL j xs.size with M|M;exact M;rw[dO M]at I;cases I
  exact⟨u,by simp[K],O⟩
 exact⟨v,by simp[e];exact I,h4⟩
theorem Kd.set'(h:Kd q t n W p)(I:p≠p'):Kd q t n (W.setCell (az p' j) u) p:=h.to (heap_setCell_other _ _ _ _ I)
end
def inQ(u:Value):Prop:=∃y,u=ai y
def boQ(u:Value):Prop:=∃b,u=.bool b
theorem Vx w{kn}(h:ITsC w vt tl)(hk:kn<=6)(hl:tl.length<=7)(g4:okJ tl (upR kn)=true)(hh:IS w vh hd)(m3:hd.length<=6)(i9:∀y∈hd,0<=y/\y<(kn:Int)):
 Cl 26 #[ai (kn:Int),vt,vh,ai 1] w λe w'=>∃v vv vb,e=.returned (.tuple #[v,vv,vb])/\ISS w' v (srt ((qO tl (upR kn)).map (qM hd)))/\Bl w w':=by
 have⟨i0,hi,p1,p2,p3⟩:=aX Tryz.infoInt;have⟨iS,hS,m4,m5,m6⟩:=aX Tryz.infoIS;have KA:Hh (Cl 42 #[ai (kn:Int),vt] w λe w'=>∃(a:OA) (c:Nat) (b:Bool),e=.returned (.tuple #[.slice a (qO tl (upR kn)).length c,.bool b])/\AnS tl w' (.slice a (qO tl (upR kn)).length c) (qO tl (upR kn))/\Bl w w'):=ay (by
  apply (VZ w h hk hl g4).mono;rintro e w' ⟨v,rfl,hA,hb⟩;obtain⟨a,c,e0,-⟩:=id hA;subst e0;exact⟨a,c,_,rfl,hA,hb⟩)
 have g5:Hh ((qO tl (upR kn)).length<=10000):=ay y8.1;have j0:Hh (∀p∈qO tl (upR kn),∀y∈hd,0<=y/\y<(p.length:Int)):=ay λp hp y hy=>by
  have h1:p.length=kn:=by
   rw[(vY g4).1]at hp;split at hp;rw[jx p hp,zO];cases hp
  rw[h1];exact i9 y hy
 obtain⟨p4,ct,rfl,-⟩:=h;obtain⟨ah,ch,rfl,m7⟩:=id hh;have HU:=ay hh;generalize qO tl (upR kn)=rows at *;clear m7 hh i9 g4;have⟨nr,g6⟩:=Ex rows.length;change Hh _ at g6;rw[<-g6]at KA g5;generalize hnt:tl.length=nt at *;change Hh _ at hnt;go_enter func26,ntmps26;go_upto_region 2 with (go_at_call 42;apply KA.o.mono;rintro e w4 ⟨aA,cA,bf,rfl,j1,g7⟩);change Hh _ at g7 j1;have j4:=ay (HU.o.below g7);clear KA HU;have j5:Hh (∀i,i<nr->∃(bA oA:Nat) (v0:Value) (aw:OA) (nw cw:Nat),aA=some (az bA oA)/\∀W,Bl w4 W->aC W bA (oA+i*2) v0/\aC W bA (oA+i*2+1) (.slice aw nw cw)/\IS W v0 (rows.getD i [])/\IS W (.slice aw nw cw) (wgL tl (rows.getD i []))):=ay λi hi=>by
  have⟨a,c,e,hh⟩:=j1.o;simp only[vI]at e;obtain⟨rfl,-,-⟩:=e;rcases hh with h0|⟨bA,oA,rfl,hh⟩;have:=g6.o;omega;have⟨v0,aw,nw,cw,c0,c1,h2,h3⟩:=hh i (by rw[<-g6.o];exact hi);exact⟨bA,oA,v0,aw,nw,cw,rfl,λW hW=>⟨qF hW c0,qF hW c1,h2.below hW,h3.below hW⟩⟩
 have e3:Hh (∀i,i<nr->(rows.take (i+1)).map (qM hd)=(rows.take i).map (qM hd)++[qM hd (rows.getD i [])]/\((rows.take i).map (qM hd)).length=i/\rows.getD i []∈rows):=ay λi hi=>⟨by rw[tA,gE (by rw[<-g6.o];exact hi),gdR (by rw[<-g6.o];exact hi),mA];rfl,by rw[lM,bZ,<-g6.o];omega,qz (by rw[<-g6.o];exact hi)⟩;have j6:Hh ((rows.take nr).map (qM hd)=rows.map (qM hd)):=ay (by rw[g6.o,tL]);have KP:Hh (∀W i u0 aw nw cw,i<nr->IS W u0 (rows.getD i [])->Bl w4 W->Cl 43 #[.agg #[u0,.slice aw nw cw],.slice ah hd.length ch] W λe w'=>∃v,e=.returned v/\w'.ownsRow W.1.size 3 1 v hd.length ((qM hd (rows.getD i [])).map ai)/\Bl W w'):=ay λW i u0 aw nw cw hi hu hW=>qBP W hu ⟨_,_,_,rfl⟩ (j4.o.below hW) Oo (j0 _ (e3 i hi).2.2);clear j0 j4 j1;have⟨W6,g8⟩:=Ex (w4.alloc (.cells #[] 24));have h4:Hh (Bl w4 W6/\RQ W6 w4.1.size (sZ w4.1.size 0 0 0) [] []):=ay (by
  rw[g8];exact⟨aK,oM _ _ 0 eA Dd rfl,rfl,λi hi=>by simp at hi,λi j _ hj=>by simp at hj⟩)
 have⟨lh,h5⟩:=Ex hd.length;change Hh _ at h5;rw[<-h5]at KP m3 |-;go_upto_region 3 with fail;rw[<-g8];clear g8;go_wp2;go_loopw [13,31] (λm9 t wx=>∃(i:Nat) (vo:Value),i<=nr/\t=ai i/\vo=m9/\Hh (∃uo,Bl w4 wx/\RQ wx w4.1.size vo uo ((rows.take i).map (qM hd)))) (λ_ t _=>nr-(intOf t).toNat);exact⟨0,_,eC,rfl,rfl,ay ⟨[],h4.1,h4.2⟩⟩;clear h4;obtain⟨i,vo,k0,rfl,rfl,k3⟩:=hrel;have⟨uo,k4,k5⟩:=k3.o;have c8:=ay k4;have b7:=ay k5;clear k3 k4 k5;by_cases K:i<nr
 .have i2:=aV K;have⟨bA,oA,u0,aw,nw,cw,ea,d2⟩:=j5 i K;subst ea;obtain⟨c0,c1,b8,-⟩:=d2 _ c8;obtain⟨k6,k7,-⟩:=e3 i K;have n3:=ay k6;have⟨W7,O⟩:=Ex (wr.alloc (.cells #[u0,.slice aw nw cw] 82));have V:Bl wr W7:=by rw[O];exact(bJ _ _).alloc (nR _) _
  have a3:Hh (Bx2 82 W7 wr.1.size u0 (.slice aw nw cw)):=ay (by rw[O];exact Bx2.made _ _ _ _);have d3:=ay (KP _ i _ aw nw cw K (b8.below V) (bt c8 V));have b9:=ay V;obtain⟨e5,e6,h6,-⟩:=id b8;generalize hpp:qM hd (rows.getD i [])=pp at *;have a9:pp.length=lh:=by rw[<-hpp,vd,h5.o]
  have d4:=ay a9;generalize (rows.getD i []).length=lr0 at *;subst h6;clear d2 b8 k6 V hpp a9 KP;go_upto_region 6 with fail;rw[<-O];clear O c0 c1;have d0:=a3.o.c0;have d1:=a3.o.c1;go_wp2_with fail;apply d3.o.mono;rintro e w8 ⟨v8,rfl,b1,c9⟩;have c7:Bl wr w8:=bt b9 c9;have h7:=ay (b7.o.below c7);have a4:=ay (bt c8 c7);have k9:=ay (qE b1 (bM c8.o.size b9.o.size));have l0:Hh (∀q,q<((rows.take i).map (qM hd)).length->∀g,(uo.getD q undef).ownBlock=some g->v8.ownBlock≠some g):=ay λq hq g h1 h2=>by
   have z1:=((b7.o.each q hq).lt g h1).2;have z2:=(b1.lt g h2).1;have z3:=b9.o.size;omega
  have⟨a8,k8,e8⟩:=qG b1;subst e8;have n5:=a4.o.size
  have h8:=ay (by have:=h7.o.own;rw[k7]at this;exact this);have l2:=g5.o;clear b1 c9 c7 d3 b7 a3 b9 d0 d1;go_wp2_with (at_builtin;refine wpList_append_lies _ rfl _ _ 23 rfl w4.1.size 24 iS sn 1 24 underlying23 hS m4 m5 m6 rfl Dd vo _ uo rfl (h8.o.alloc _) (az _ 0) 1 1 [.slice a8 lh k8] rfl rfl (qH _ _ _) (λu hu=>by simp at hu;subst hu;rfl) Dd Um Oo Sy _ rfl ?_;intro g9 n6 w9 d5 a5 l3 l4);have HN:Hh (∃n7,Bl w4 w9/\RQ w9 w4.1.size (sZ g9 0 (i+1) n6) n7 ((rows.take (i+1)).map (qM hd))):=ay ⟨_,(a4.o.alloc n5 _).grown a5 Sy (λq hq=>(h8.o.lt q hq).1),by rw[n3.o];exact h7.o.step (by rw[d4.o];exact k9) l0 (by rw[k7];exact d5) a5⟩;clear d5 a5 l3 l4 h7 k9 l0 h8;go_roundw
  case rel=>first|exact⟨i+1,_,Oo,Gg,rfl,HN⟩|((repeat apply Exists.intro);exact⟨⟨i+1,_,Oo,Gg,rfl,HN⟩,rfl⟩)
  case measure=>simp[intOf];omega
 obtain rfl:nr=i:=Oo;have i2:=aY nr;rw[j6.o]at b7;have l2:=g5.o;have e7:Hh ((rows.map (qM hd)).length=nr):=ay (by rw[lM,g6.o]);have KS:Hh (Cl 44 #[vo] wr λe w'=>∃(ar:OA) (cr:Nat),e=.returned (.slice ar (srt (rows.map (qM hd))).length cr)/\ISSc w' (.slice ar (srt (rows.map (qM hd))).length cr) (srt (rows.map (qM hd)))/\Bl wr w'):=ay (by
  refine(ZQ _ _ _ _ (rows.map (qM hd)) eA eB b7.o.rsx (by rw[e7.o];omega) (λr hr=>?_)).mono ?_;obtain⟨q,-,rfl⟩:=cC.1 hr;rw[vd,<-h5.o];omega;rintro e w' ⟨v',p5,rfl,hR,-,hb⟩;have hF:=hR.issc hb;obtain⟨ar,cr,e0,-⟩:=id hF;subst e0;exact⟨ar,cr,rfl,hF,hb⟩)
 have h9:Hh ((srt (rows.map (qM hd))).length<=10000):=ay (by have h1:=yK _ (rows.map (qM hd)) eA;have h2:=e7.o;omega);have⟨p6,p7,l5⟩:=b7.o.sl;rw[e7.o]at l5;subst l5;have i4:Hh (∀i,i<nr->qM hd (rows.getD i [])∈srt (rows.map (qM hd))):=ay λi hi=>((zQ _ _ eA).2 _).2 (dF (e3 i hi).2.2);have d6:Hh (SL (srt (rows.map (qM hd)))/\∀r∈srt (rows.map (qM hd)),r.length=lh):=ay ⟨(zQ _ _ eA).1,λr hr=>by
  obtain⟨q,-,rfl⟩:=cC.1 (((zQ _ _ eA).2 _).1 hr);rw[vd,h5.o]⟩
 have⟨RR,i5⟩:=Ex (srt (rows.map (qM hd)));rw[<-i5]at KS h9 i4 d6;have n8:=ay i5;clear i5;have⟨M,i6⟩:=Ex RR.length;have l6:=ay i6;rw[<-i6]at KS h9;clear i6 b7 e7 e3 j6;have p8:=h9.o;go_upto_region 9 with (go_at_call 44;apply KS.o.mono;rintro e I ⟨ar,cr,rfl,e9,f7⟩);have f8:=ay e9;have d7:=ay (bt c8 f7);clear e9 f7 KS;have o9:w.1.size<=I.1.size:=bM g7.o.size d7.o.size;have o3:=run_make_row' 24 3 (ai 0) 8 underlying24 Kl rfl .i64 .i64 M Oo Oo;have o4:=run_make_row' 84 4 (.bool false) 1 underlying84 Kl rfl .i64 .i64 M Oo Oo;have⟨i7,d8⟩:=Ex ((aJ I (madeCells #[ai 0] M) 3).alloc (.cells (madeCells #[.bool false] M) 4));have l7:Hh (Bl I i7/\Kd inQ 3 M i7 I.1.size/\Kd boQ 4 M i7 (I.1.size+1)):=ay (by
  rw[d8];refine⟨uP (uP eB _) _,⟨_,((aK).block _ Ss).trans (dZ _ _),λj hj=>⟨_,Qu hj,_,rfl⟩⟩,⟨_,by have:=dZ (aJ I (madeCells #[ai 0] M) 3) (.cells (madeCells #[.bool false] M) 4);rw[aM]at this;exact this,λj hj=>⟨_,Qu hj,_,rfl⟩⟩⟩)
 go_upto_region 11 with fail;rw[<-d8];clear d8 o3 o4;go_wp2_with fail;clear c8;generalize wr=wq at *;go_loopw [52] (λt wx=>∃(i:Nat),i<=nr/\t=ai i/\Hh (Bl I wx/\Kd inQ 3 M wx I.1.size/\Kd boQ 4 M wx (I.1.size+1))) (λt _=>nr-(intOf t).toNat);exact⟨0,eC,rfl,l7⟩;clear l7;obtain⟨i,k0,rfl,HT⟩:=hrel;by_cases K:i<nr
 .have i2:=aV K;have⟨bA,oA,u0,aw,nw,cw,ea,d2⟩:=j5 i K;subst ea;have l8:Hh (Bl w4 wr):=ay (bt d7 HT.1);obtain⟨c0,c1,b8,l9⟩:=d2 _ l8;obtain⟨W7,O⟩:=Ex (wr.alloc (.cells #[u0,.slice aw nw cw] 82));have V:Bl wr W7:=by rw[O];exact(bJ _ _).alloc (nR _) _
  have a3:Hh (Bx2 82 W7 wr.1.size u0 (.slice aw nw cw)):=ay (by rw[O];exact Bx2.made _ _ _ _);have d3:=ay (KP _ i _ aw nw cw K (b8.below V) (bt l8 V));have b9:=ay V;have o5:=ay l9;have o6:Hh ((wgL tl (rows.getD i [])).length<=1000):=ay (by unfold wgL;rw[lM,hnt.o];omega);have o7:=ay (i4 i K);obtain⟨e5,e6,h6,-⟩:=id b8;have a9:(qM hd (rows.getD i [])).length=lh:=by rw[vd,h5.o]
  have d4:=ay a9;generalize qM hd (rows.getD i [])=pp at *;generalize wgL tl (rows.getD i [])=lw,(rows.getD i []).length=lr0 at *;subst h6;clear d2 b8 l9 V a9 KP i4;go_upto_region 14 with fail;rw[<-O];clear O c0 c1;have d0:=a3.o.c0;have d1:=a3.o.c1;go_wp2_with fail;apply d3.o.mono;rintro e w8 ⟨v8,rfl,b1,c9⟩;have c7:Bl wr w8:=bt b9 c9;have a4:Hh (Bl I w8/\Bl wr w8):=ay ⟨bt HT.1 c7,c7⟩;have d9:Hh (Bx2 82 w8 wr.1.size (.slice e5 lr0 e6) (.slice aw nw cw)):=ay (a3.o.at c9 a3.o.lt);obtain⟨a8,k8,e8⟩:=qG b1;subst e8;have m0:Hh (Cl 45 #[.slice ar M cr,.slice a8 lh k8] w8 λe w'=>∃kk:Nat,e=.returned (ai kk)/\kk<M/\Bl w8 w'):=ay (by
   refine(uR _ _ _ (f8.o.below a4.o.1) (qN (l:=pp) (by rw[d4.o];exact b1)) d6.o.1 (by rw[<-l6.o];omega) (λr hr=>?_)).mono ?_;have:=d6.2 r hr;have:=d4.o;omega;rintro e w' ⟨kk,rfl,o8,d,rfl⟩;exact⟨kk,rfl,by rw[l6.o];exact(qG4 d6.1 o7 (λr hr=>by rw[d4.o];exact d6.2 r hr) o8).2,below_drewN eB d⟩)
  have m1:Hh (∀W,Bl w8 W->Kd inQ 3 M W I.1.size/\Kd boQ 4 M W (I.1.size+1)):=ay λW hW=>⟨HT.2.1.to ((bt a4.2 hW).block _ HT.2.1.lt),HT.2.2.to ((bt a4.2 hW).block _ HT.2.2.lt)⟩;clear b1 c9 c7 d3 a3 b9 d0 d1;go_upto_region 16 with (first|go_at_call 45;apply m0.o.mono;rintro e w9 ⟨kk,rfl,i8,e1⟩;have d0:=(d9.o.at e1 d9.o.lt).c0;have d1:=(d9.o.at e1 d9.o.lt).c1|go_at_call 46;apply ((λW hW=>JW W (o5.o.below (bt a4.2 hW)) o6) _ e1).mono;rintro e a6 ⟨rfl,f9⟩);have e2:=bt e1 f9;obtain⟨K1,K2⟩:=m1 _ e2;obtain⟨-,s1,y,rfl⟩:=K1.at i8;obtain⟨-,s2,bb,rfl⟩:=K2.at i8;have f2:=K2.free kk;have K3:Kd inQ 3 M (sC a6 (I.1.size+1) kk (.bool true)) I.1.size:=K1.set' Oo;obtain⟨-,s3,y3,rfl⟩:=K3.at i8;have f3:=K3.free kk;have i3:(kk:Int)<M:=Oo;have HN:Hh (∀z,Bl I ((sC a6 (I.1.size+1) kk (.bool true)).setCell (az I.1.size kk) (ai z))/\Kd inQ 3 M ((sC a6 (I.1.size+1) kk (.bool true)).setCell (az I.1.size kk) (ai z)) I.1.size/\Kd boQ 4 M ((sC a6 (I.1.size+1) kk (.bool true)).setCell (az I.1.size kk) (ai z)) (I.1.size+1)):=ay λz=>⟨((ay (bt a4.1 e2)).o.setCell (by show I.1.size<=I.1.size+1;omega) _).setCell eA _,K3.set ⟨_,rfl⟩,(K2.set ⟨_,rfl⟩).set' Oo⟩;clear K1 K2 K3 m1 e2 e1 f9 d9 m0 d0 d1 a4;cases bb
  all_goals go_wp2_with (go_at_call 47;apply (ay (qAR y 1)).o.mono;rintro e p9 ⟨⟨z,rfl⟩,rfl⟩)
  all_goals go_roundw
  all_goals first
   |exact⟨i+1,Oo,Gg,ay (HN _)⟩
   |(simp[intOf];omega)
 obtain rfl:nr=i:=Oo;have i2:=aY nr;have HF:Hh (ISS wr (.slice ar M cr) (srt (rows.map (qM hd)))/\Bl w wr):=ay ⟨by rw[<-n8.o];exact f8.o.iss.below HT.1,bt g7 (bt d7 HT.1)⟩;go_wp2_with fail;go_ret3;exact⟨_,⟨_,_,rfl⟩,HF.1,HF.2⟩
theorem qEk(h:hdB k o=true)(I:j<o.length):(0<=o.getD j 0/\o.getD j 0<k)/\o.getD j 0∉o.take j:=by
 have:=aT.1 h j (cJ.2 I);unfold yl at this;simpa using this
theorem qAQ(h:hdB k o=true)y(K:y∈o):0<=y/\y<k:=by
 obtain⟨j,I,rfl⟩:=gO K;have:=(qEk h I).1;rwa[gdR I]at this
theorem qI5(h:hdB k o=true):o.Nodup:=List.pairwise_iff_getElem.2 λi j hi I K e=>by
 have:=(qEk h I).2;rw[gdR I,<-e]at this;exact this (List.mem_take_iff_getElem.2 ⟨i,Oo,rfl⟩)
theorem UB(h:hdB k o=true)(K:k<=6):o.length<=6:=by
 have:=je (b:=upR k.toNat) (qI5 h) λy I=>uw.2 (O1 (qAQ h y I));rw[zO]at this;omega
def enA(r:Bool)(k:Int)(tl:List TbV)(hd:LI):LL:=if r&&hdB k hd then srt ((qO tl (upR k.toNat)).map (qM hd)) else []
theorem qB4 w k x y(h:ITs w vt tl)(hC:∀W,Bl w W->ITsC W vt tl)(hl:tl.length<=1048576)(hs':∀t∈tl,TvS t)(hp:IPl w v0 v1 v2 v3 bs ps hs ws)(a8:qS bs)(hh:IS w vh hd)(b7:hd.length<=1099511627776)(a4:∀a n cap,vh=.slice a n cap->n<=cap):
 Cl 6 #[ai k,vt,.agg #[v0,v1,v2,v3,ai x,ai y],vh] w λe w'=>∃v,e=.returned v/\ISS w' v (enA (qc k tl bs ps hs ws (x,y)) k tl hd)/\Bl w w':=by
 have KR:Hh (∀W,Bl w W->Cl 24 #[ai k,vt,.agg #[v0,v1,v2,v3,ai x,ai y]] W λe w'=>e=.returned (.bool (qc k tl bs ps hs ws (x,y)))/\Bl W w'):=ay λW O=>JK W k x y (h.below O) hl hs' (hp.below O) a8;have KH:Hh (qc k tl bs ps hs ws (x,y)=true->∀W,Bl w W->Cl 25 #[ai k,vh] W λe w'=>e=.returned (.bool (hdB k hd))/\Bl W w'):=ay λhr W O=>by
  obtain⟨q0,q6,-⟩:=xA (zR hr).2.1;have h1:=qAG W k.toNat (hh.below O) Oo b7 a4;rw[show((k.toNat:Nat):Int)=k by omega]at h1;apply h1.mn;intro w' rfl;exact⟨rfl,bJ _ _⟩
 have KG:Hh (qc k tl bs ps hs ws (x,y)=true->hdB k hd=true->∀W,Bl w W->Cl 26 #[ai k,vt,vh,ai 1] W λe w'=>∃v vv vb,e=.returned (.tuple #[v,vv,vb])/\ISS w' v (srt ((qO tl (upR k.toNat)).map (qM hd)))/\Bl W w'):=ay λhr a9 W O=>by
  obtain⟨r1,r2,r3,r4,r5⟩:=zR hr;obtain⟨q0,q6,-⟩:=xA r2;have h1:=Vx W (hC W O) Oo r4 (qJi hr) (hh.below O) (UB a9 q6) (λy hy=>O1 (qAQ a9 y hy));rw[show((k.toNat:Nat):Int)=k by omega]at h1;exact h1
 have HE:Hh (enA (qc k tl bs ps hs ws (x,y)) k tl hd=if qc k tl bs ps hs ws (x,y)&&hdB k hd then srt ((qO tl (upR k.toNat)).map (qM hd)) else []):=ay rfl;generalize enA (qc k tl bs ps hs ws (x,y)) k tl hd=EA,srt ((qO tl (upR k.toNat)).map (qM hd))=RR at *;obtain⟨a0,k0,rfl,-⟩:=hp.b;obtain⟨a1,k1,rfl,-⟩:=hp.p;obtain⟨a2,k2,rfl,-⟩:=hp.h;obtain⟨a3,k3,rfl,-⟩:=hp.d;obtain⟨ah,kh,rfl,-⟩:=hh;clear hp a8 hs' hC a4;obtain⟨c9,ct,rfl,-⟩:=h;generalize qc k tl bs ps hs ws (x,y)=RD,hdB k hd=HD,tl.length=n,bs.length=nb,ps.length=np,hs.length=nh,ws.length=nw,hd.length=nd at *;obtain⟨W1,I⟩:=Ex (w.alloc (.cells #[.slice a0 nb k0,.slice a1 np k1,.slice a2 nh k2,.slice a3 nw k3,ai x,ai y] 38));have b8:Hh (PX 38 W1 w.1.size (.slice a0 nb k0) (.slice a1 np k1) (.slice a2 nh k2) (.slice a3 nw k3) x y):=ay (by rw[I];exact PX.made _ _ _ _ _ _ _ _);have M:Hh (Bl w W1):=ay (by rw[I];exact(bJ _ _).alloc (nR _) _);have⟨s0,s1,s2,s3,s4,s5⟩:=b8.o.six;have a5:=ay (KR _ M);have a6:Hh (∀W,Bl w W->EA=[]->ISS (aJ W #[] 24) (sZ W.1.size 0 0 0) EA/\Bl w (aJ W #[] 24)):=ay λW O e=>⟨by rw[e];exact⟨_,0,rfl,Or.inl rfl⟩,uP O _⟩;clear KR;cases RD with
 |false=>
  have HG:Hh (EA=[]):=ay (by rw[HE.o];rfl);clear KH KG HE;go_enter func6,ntmps6;go_upto_region 1 with fail;rw[<-I];clear I;go_wp2_with (go_at_call 24;apply a5.o.mono;rintro e w2 ⟨rfl,K⟩);go_ret;exact⟨_,rfl,a6 _ (bt M K) HG⟩
 |true=>
  have b1:=ay (KH rfl);have a7:=ay (KG rfl);clear KH KG;cases HD with
  |false=>
   have HG:Hh (EA=[]):=ay (by rw[HE.o];rfl);clear a7 HE;go_enter func6,ntmps6;go_upto_region 1 with fail;rw[<-I];clear I;go_wp2_with (first|go_at_call 24;apply a5.o.mono;rintro e w2 ⟨rfl,K⟩|go_at_call 25;apply (b1.o _ (bt M.o K)).mono;rintro e w3 ⟨rfl,V⟩);go_ret;exact⟨_,rfl,a6 _ (bt M (bt K V)) HG⟩
  |true=>
   have b9:=ay (a7 rfl);have HG:Hh (EA=RR):=ay (by rw[HE.o];rfl);clear a7 HE a6;go_enter func6,ntmps6;go_upto_region 1 with fail;rw[<-I];clear I;go_wp2_with (first|go_at_call 24;apply a5.o.mono;rintro e w2 ⟨rfl,K⟩|go_at_call 25;apply (b1.o _ (bt M.o K)).mono;rintro e w3 ⟨rfl,V⟩|go_at_call 26;apply (b9.o _ (bt M.o (bt K V))).mono;rintro e w4 ⟨v4,d0,d1,rfl,c7,c8⟩);go_ret;exact⟨_,rfl,by rw[HG.o];exact c7,bt M (bt K (bt V c8))⟩
theorem qHO:srt []=[]:=List.eq_nil_iff_forall_not_mem.2 λz I=>by
 have:=((zQ _ _ eA).2 z).1 I;cases this
section
variable {k:Int} {tl:List TbV} {bs:LL} {ps hs:LI} {ws:LP} {x:Int×Int} {hd:LI}
theorem qHP(h:whJ k tl bs ps hs ws x=false):enA (qc k tl bs ps hs ws x) k tl hd=[]:=by
 unfold enA;by_cases e:(qc k tl bs ps hs ws x&&hdB k hd)=true
 .rw[fE e];have I:=(bV _ _ ▸ e).1;unfold qc at I;rw[bV]at I;unfold whJ at h;rw[I.2,dG,aP]at h;have:qO tl (upR k.toNat)=[]:=by
   unfold zK at h;unfold qO;split at h;omega;rename_i h2;rw[fF h2]
  rw[this];exact qHO
 rw[fF e]
theorem qHQ(h:hdB k hd=false):enA (qc k tl bs ps hs ws x) k tl hd=[]:=by
 unfold enA;rw[h,Bool.and_false];rfl
theorem qHR(h:whJ k tl bs ps hs ws x=true)(I:hdB k hd=true):enA (qc k tl bs ps hs ws x) k tl hd=srt ((qO tl (upR k.toNat)).map (qM hd)):=by
 unfold enA;rw[(YA h).1,I];rfl
end
theorem qHS(W:World)(hB:B<=W.1.size):RQ (W.alloc (.cells #[] 24)) B (sZ W.1.size 0 0 0) [] []:=⟨⟨rfl,Or.inr ⟨W.1.size,0,#[],rfl,hB,eO,eA,by unfold maxLen;decide,rfl,rfl⟩⟩,rfl,λi hi=>(by cases hi),λi j _ I=>(by cases I)⟩
theorem JV w vh k x y(h:ITs w vt tl)(hl:tl.length<=1048576)(hs':∀t∈tl,TvS t)(hp:IPl w v0 v1 v2 v3 bs ps hs ws)(a8:qS bs)(a9:ps.length<=1099511627776)(b9:∀t∈tl,Wf t.rows)(hh:IS w vh hd)(c7:hd.length<=1099511627776)(a7:∀a n cap,vh=.slice a n cap->n<=cap):
 Cl 31 #[ai k,vt,.agg #[v0,v1,v2,v3,ai x,ai y],vh,.iface 68 (.agg #[])] w λe w'=>∃vR vW,e=.returned (.tuple #[vR,vW])/\(∃us,RQ w' w.1.size vR us (enA (qc k tl bs ps hs ws (x,y)) k tl hd))/\Bl w w':=by
 have KW:=ay λW K=>YH W k x y (h.below K) hl hs' (hp.below K) a8 a9;have KH:=ay λW K=>qAF W k (hh.below K) c7 a7;have KJ:=ay λK W vj us hb hj=>YB w W vj k x y us hb h hl hs' hp a8 a9 b9 K hj;have KA:Hh (whJ k tl bs ps hs ws (x,y)=true->hdB k hd=true->∀W q0 m0 z0 q1 m1 z1 q2 m2 z2,JtE w tl k.toNat W (.slice q0 m0 z0) (.slice q1 m1 z1) (.slice q2 m2 z2)->Cl 51 #[.agg #[.slice q0 m0 z0,.slice q1 m1 z1,.slice q2 m2 z2],vt,vh,.iface 68 (.agg #[])] W λe w'=>∃vR vW,e=.returned (.tuple #[vR,vW])/\(∃us,RQ w' w.1.size vR us (enA (qc k tl bs ps hs ws (x,y)) k tl hd))/\Bl w w'):=ay λh1 h2 W q0 m0 z0 q1 m1 z1 q2 m2 z2 hJ=>by
  obtain⟨d7,d8,T,c9,g1,g2,g3⟩:=hJ;obtain⟨r1,r2,r3,r4,r5⟩:=zR (YA h1).1;obtain⟨k0,k6,-⟩:=xA r2;rw[qHR h1 h2];exact Vw g1 (λy hy=>O1 (qAQ h2 y hy)) (O1 (UB h2 k6)) w W g3 h hh g2 Oo λt ht=>aT.1 r1 t ht
 have M:Hh (whJ k tl bs ps hs ws (x,y)=false->enA (qc k tl bs ps hs ws (x,y)) k tl hd=[]):=ay qHP;have O:Hh (hdB k hd=false->enA (qc k tl bs ps hs ws (x,y)) k tl hd=[]):=ay qHQ;obtain⟨a0,c0,rfl,-⟩:=hp.b;obtain⟨a1,c1,rfl,-⟩:=hp.p;obtain⟨a2,c2,rfl,-⟩:=hp.h;obtain⟨a3,c3,rfl,-⟩:=hp.d;obtain⟨ah,kh,rfl,-⟩:=hh;obtain⟨d9,ct,rfl,-⟩:=h;clear hp a8 hs' a9 b9 a7 c7 hl;generalize enA (qc k tl bs ps hs ws (x,y)) k tl hd=EA,whJ k tl bs ps hs ws (x,y)=WH,hdB k hd=HD,qO tl (upR k.toNat)=RJ,tl.length=nt,hd.length=nd,bs.length=nb,ps.length=np,hs.length=nh at *;generalize ws.length=nw at *;obtain⟨W1,V⟩:=Ex (w.alloc (.cells #[.slice a0 nb c0,.slice a1 np c1,.slice a2 nh c2,.slice a3 nw c3,ai x,ai y] 38));have b1:Hh (PX 38 W1 w.1.size (.slice a0 nb c0) (.slice a1 np c1) (.slice a2 nh c2) (.slice a3 nw c3) x y):=ay (by rw[V];exact PX.made _ _ _ _ _ _ _ _);have b7:Hh (Bl w W1):=ay (by rw[V];exact(bJ _ _).alloc (nR _) _);have I:Hh (∀W,Bl w W->EA=[]->(∃us,RQ ((W.alloc (.cells #[] 24)).alloc (.cells #[] 3)) w.1.size (sZ W.1.size 0 0 0) us EA)/\Bl w ((aJ W #[] 24).alloc (.cells #[] 3))):=ay λW K e=>⟨⟨[],by rw[e];exact(qHS W K.size).below (x8 (bJ _ _) _)⟩,x8 (x8 K _) _⟩;have⟨s0,s1,s2,s3,s4,s5⟩:=b1.o.six;have c8:=ay (KW _ b7);clear KW;go_enter func31,ntmps31;go_upto_region 1 with fail;rw[<-V];clear V;go_upto_region 2 with (go_at_call 48;apply c8.o.mono;rintro e w2 ⟨aj,nj,cj,rfl,a4⟩);have a5:=ay a4;have a6:=ay (bt b7 a4.2);have d0:=ay (b1.o.below a4.2);clear s0 s1 s2 s3 s4 s5 c8 b1 a4;have b8:=ay (KH _ a6);clear KH;cases WH with
 |false=>
  have HG:=ay (I _ a6 (M (by trivial)));clear M O KJ KA b8 I a5;go_wp2;go_ret2;exact⟨_,_,rfl,HG⟩
 |true=>
  cases HD with
  |false=>
   have HG:=ay (I _ a6 (O (by trivial)));clear M O KJ KA I a5;go_wp2_with (go_at_call 49;apply b8.o.mn;intro w' d1;subst w');go_ret2;exact⟨_,_,rfl,HG⟩
  |true=>
   have⟨us,hj⟩:=a5.1 rfl;have d2:=ay (KJ (by trivial) _ _ _ a6 (hj.base b7.o.size));have d3:=ay (KA (by trivial) (by trivial));have⟨s0,s1,s2,s3,s4,s5⟩:=d0.o.six;clear M O KJ KA I a5 hj;go_wp2_with (first|go_at_call 49;apply b8.o.mn;intro w' d1;subst w'|go_at_call 50;apply d2.o.mono;rintro e w5 ⟨q0,m0,z0,q1,m1,z1,q2,m2,z2,rfl,d4⟩|go_at_call 51;apply (d3.o _ _ _ _ _ _ _ _ _ _ d4).mono;rintro e w6 ⟨vR,vW,rfl,d5,d6⟩);go_ret2;exact⟨_,_,rfl,d5,d6⟩
theorem qB0 w k x y(h:ITs w vt tl)(hl:tl.length<=1048576)(hs':∀t∈tl,TvS t)(M:IPl w v0 v1 v2 v3 bs ps hs ws)(V:qS bs)(a4:ps.length<=1099511627776)(a5:∀t∈tl,Wf t.rows)(hh:IS w O hd)(a6:hd.length<=1099511627776)(K:∀a n cap,O=.slice a n cap->n<=cap):
 Cl 10 #[ai k,vt,.agg #[v0,v1,v2,v3,ai x,ai y],O] w λe w'=>∃v us,e=.returned v/\RQ w' w.1.size v us (enA (qc k tl bs ps hs ws (x,y)) k tl hd)/\Bl w w':=by
 have KA:Hh (∀W,Bl w W->Cl 31 #[ai k,vt,.agg #[v0,v1,v2,v3,ai x,ai y],O,.iface 68 (.agg #[])] W λe w'=>∃vR vW,e=.returned (.tuple #[vR,vW])/\(∃us,RQ w' w.1.size vR us (enA (qc k tl bs ps hs ws (x,y)) k tl hd))/\Bl w w'):=ay λW hW=>by
  apply (JV W O k x y (h.below hW) hl hs' (M.below hW) V a4 a5 (hh.below hW) a6 K).mono;rintro e w' ⟨vR,vW,rfl,⟨us,hq⟩,hb⟩;exact⟨vR,vW,rfl,⟨us,hq.base hW.size⟩,bt hW hb⟩
 obtain⟨a0,c0,rfl,-⟩:=M.b;obtain⟨a1,c1,rfl,-⟩:=M.p;obtain⟨a2,c2,rfl,-⟩:=M.h;obtain⟨a3,c3,rfl,-⟩:=M.d;obtain⟨ah,kh,rfl,-⟩:=hh;obtain⟨b1,ct,rfl,-⟩:=h;clear M V hs' a4 a5 K a6 hl;generalize enA (qc k tl bs ps hs ws (x,y)) k tl hd=EA,tl.length=nt,hd.length=nd,bs.length=nb,ps.length=np at *;generalize hs.length=nh at *;generalize ws.length=nw at *;obtain⟨W1,I⟩:=Ex (w.alloc (.cells #[.slice a0 nb c0,.slice a1 np c1,.slice a2 nh c2,.slice a3 nw c3,ai x,ai y] 38));have a7:Hh (PX 38 W1 w.1.size (.slice a0 nb c0) (.slice a1 np c1) (.slice a2 nh c2) (.slice a3 nw c3) x y):=ay (by rw[I];exact PX.made _ _ _ _ _ _ _ _);have a8:Hh (Bl w W1):=ay (by rw[I];exact(bJ _ _).alloc (nR _) _);have⟨s0,s1,s2,s3,s4,s5⟩:=a7.o.six;have a9:=ay (KA _ a8);clear KA;go_enter func10,ntmps10;go_upto_region 1 with fail;rw[<-I];clear I;go_wp2_with (go_at_call 31;apply a9.o.mono;rintro e w2 ⟨vR,vW,rfl,⟨us,hq⟩,hb⟩);go_ret;exact⟨_,us,rfl,hq,hb⟩
end
end Go.Proofs.YtnpgdnaeghilhaaGreat
namespace Go.Proofs.YtnpgdnaeghilhaaGreat
open Go.Proofs.Tryz Go.RowKit
variable {hi lo B:Nat}{a b:World}
open Meet
theorem Jc w v{v' ls}(h:ISS w v ls)(I:ISS w v' ls)(hl:qS ls):
 aG 11 #[v,v'] w (.bool true):=
 (jZ w v h I hl).mono (by
  rintro e w' ⟨rfl,m,rfl⟩;exact⟨rfl,below_drewN eB m⟩)
theorem Fr.belJ(h:Fr lo hi a b)(hs:lo<=a.1.size):Below lo a b:=⟨h.os,h.tape,h.output,h.size,λx I=>h.block x Oo (Or.inl I)⟩
theorem RQ.frJ{v us ls}(h:RQ a B v us ls)(K:Fr lo hi a b)(hB:hi<=B):RQ b B v us ls:=
 ⟨qD h.own λg I=>K.block g (h.own.lt g I).2 (Or.inr (bM hB (h.own.lt g I).1)),h.len,λi hi=>qD (h.each i hi) λg I=>K.block g ((h.each i hi).lt g I).2 (Or.inr (bM hB ((h.each i hi).lt g I).1)),h.ap⟩
theorem qIv{k tl bs ps hs ws x hd}:(enA (qc k tl bs ps hs ws x) k tl hd).length<=10000/\∀r∈enA (qc k tl bs ps hs ws x) k tl hd,r.length<=6:=by
 unfold enA;by_cases h:(qc k tl bs ps hs ws x&&hdB k hd)=true;rw[fE h];rw[bV]at h;have I:=yK _ ((qO tl (upR k.toNat)).map (qM hd)) eA;rw[lM]at I;refine⟨bM I y8.1,λr K=>?_⟩;obtain⟨p,-,rfl⟩:=cC.1 (qDw K);unfold qM;rw[lM];exact UB h.2 (xA (zR h.1).2.1).2.1;rw[fF h];exact⟨Ss,λt M=>by cases M⟩
theorem qB2 w{vt}v0 v1 v2 v3{vh}k x y tl bs ps hs ws hd(h:ITs w vt tl)(hp:IPl w v0 v1 v2 v3 bs ps hs ws)(hl:tl.length<=9223372036854775807)(hs':∀t∈tl,TvF t)(hf:Fits bs)(m4:ps.length<=9223372036854775807)(m5:hs.length<=9223372036854775807)(m6:ws.length<=9223372036854775807)(m7:∀t∈tl,Wf t.rows)(hh:IS w vh hd)(t7:hd.length<=9223372036854775807):
 aG 3 #[ai k,vt,.agg #[v0,v1,v2,v3,ai x,ai y],vh] w (.bool true):=by
 have A6:Tryz.prog.follows .mixedOrders=true:=Kl;have I:∀W:World,Bl W W.drew:=λW=>(bJ _ _).drew;have g7:=ay h;have g8:=ay hp;have k4:=ay hh;have m8:=ay m7;obtain⟨ah,ch,t8,-⟩:=id hh;subst t8;obtain⟨t9,ct,v6,-⟩:=id h;obtain⟨a0,k0,e0,-⟩:=id hp.b;obtain⟨a1,k1,e1,-⟩:=id hp.p;obtain⟨a2,k2,e2,-⟩:=id hp.h;obtain⟨a3,k3,e3,-⟩:=id hp.d;subst v6 e0 e1 e2 e3;have⟨W0,d6⟩:=Ex (w.alloc (.cells #[.slice a0 bs.length k0,.slice a1 ps.length k1,.slice a2 hs.length k2,.slice a3 ws.length k3,ai x,ai y] 29));have V:Hh (Bl w W0):=ay (by rw[d6];exact(bJ _ _).alloc (nR _) _);have m9:Hh (PX 29 W0 w.1.size (.slice a0 bs.length k0) (.slice a1 ps.length k1) (.slice a2 hs.length k2) (.slice a3 ws.length k3) x y):=ay (by rw[d6];exact PX.made _ _ _ _ _ _ _ _);have KZ:=ay (Ue (g7.o.below V) hl hs' eA);have k5:Hh (∀W (z:Int),Bl W0 W->0<=z->z<=1048576->Cl 5 #[.agg #[.slice a0 bs.length k0,.slice a1 ps.length k1,.slice a2 hs.length k2,.slice a3 ws.length k3,ai x,ai y],ai z] W λe w'=>e=.returned (ai (szP bs ps hs ws z))/\Bl W w'):=ay λW z hW M h2=>qA7 W x y z (g8.o.below (bt V hW)) hf m4 m5 m6 M h2;have b1:Hh (∀W,Bl W0 W->W.cell? (az w.1.size 0)=some (.slice a0 bs.length k0)/\aC W w.1.size 1 (.slice a1 ps.length k1)/\aC W w.1.size 2 (.slice a2 hs.length k2)/\aC W w.1.size 3 (.slice a3 ws.length k3)/\aC W w.1.size 4 (ai x)/\aC W w.1.size 5 (ai y)):=ay λW hW=>(m9.o.below hW).six;clear h hp hs' hf m4 m5 m6 m9 hh m7;by_cases n3:1048576<hd.length
 .have i1:(1048576:Int)<(hd.length:Int):=Oo;clear KZ k5 b1 g7 g8 k4;go_enter func3,ntmps3;go_upto_region 1 with fail;rw[<-d6];clear d6;go_wp2;go_ret;exact⟨rfl,V⟩
 have i1:¬((1048576:Int)<(hd.length:Int)):=Oo;have B3:hd.length<=1048576:=Oo;clear n3 t7;go_enter func3,ntmps3;go_upto_region 1 with fail;rw[<-d6];clear d6;go_wp2_with fail;apply KZ.o.mono;rintro e w1 ⟨z,rfl,hz,d7⟩;by_cases n4:z<0
 .go_wp2;go_ret;exact⟨rfl,bt V d7⟩
 have⟨hB,n5⟩:=hz Oo;have HB:=ay hB;have n6:¬(z<0):=n4;have⟨s0,s1,s2,s3,s4,s5⟩:=b1 _ d7;have k6:=ay (k5 _ z d7 Oo n5);clear hz KZ k5;have⟨sz,hsz⟩:=Ex (szP bs ps hs ws z);rw[<-hsz]at k6;have n7:Hh (¬sz<0->tot bs bs.length+ps.length+hs.length+ws.length<=1048576):=ay λh=>by
  rw[hsz]at h;unfold szP at h;by_cases hg:z<tot bs bs.length+ps.length+hs.length+ws.length;rw[fE hg]at h;omega;omega
 clear hsz hB;go_wp2_with fail;apply k6.o.mn;intro w2 k7;by_cases v7:sz<0
 .go_wp2;go_ret;exact⟨rfl,bt (bt V d7) k7⟩
 have hT:=n7 Oo;have A7:¬(sz<0):=v7;have g9:=ay (bt d7 k7);have HT:=ay hT;clear s0 s1 s2 s3 s4 s5 k6 n7 d7 k7 n5 n4 n6 hl;have e4:=ay (qHA HB);have e5:Hh (qS bs):=ay (qAY (O1 HT));have k8:tl.length<=1048576:=O1 HB.o
 have B4:bs.length<=1048576:=by have:=HT.o;unfold tot at this;omega
 have v9:ps.length<=1048576:=Oo;have x3:hs.length<=1048576:=Oo;have n8:ws.length<=1048576:=Oo;have x4:tot bs bs.length<=1048576:=Oo;clear hT;have d8:=ay (qIv (k:=k) (tl:=tl) (bs:=bs) (ps:=ps) (hs:=hs) (ws:=ws) (x:=(x,y)) (hd:=hd));have K2:Hh (∀W,Bl W0 W->Cl 9 #[.slice ah hd.length ch] W λe w'=>e=.returned (sZ W.1.size 0 hd.length hd.length)/\OwnI w' W.1.size hd/\Bl W w'):=ay λW hW=>yH W _ (k4.o.below (bt V hW)) Oo;have K7:Hh (∀W g1 g2,OwnI W g1 hd->OwnI W g2 hd->Cl 14 #[sZ g1 0 hd.length hd.length,sZ g2 0 hd.length hd.length] W λe w'=>e=.returned (.bool true)/\Bl W w'):=ay λW g1 g2 M h2=>QN W M.is h2.is Oo;have KT:Hh (∀W,Bl W0 W->Cl 7 #[.slice t9 tl.length ct] W λe w'=>e=.returned (sZ W.1.size 0 tl.length tl.length)/\HalfT w' W.1.size tl.length tl.length tl/\W.1.size<w'.1.size/\Bl W w'):=ay λW hW=>Uf W (g7.o.below (bt V hW)) Oo e4;have KP:Hh (∀W,Bl W0 W->Cl 8 #[.agg #[.slice a0 bs.length k0,.slice a1 ps.length k1,.slice a2 hs.length k2,.slice a3 ws.length k3,ai x,ai y]] W λe w'=>∃g0 g1 g2 g3,e=.returned (.agg #[sZ g0 0 bs.length bs.length,sZ g1 0 ps.length ps.length,sZ g2 0 hs.length hs.length,sZ g3 0 ws.length ws.length,ai x,ai y])/\IPl w' (sZ g0 0 bs.length bs.length) (sZ g1 0 ps.length ps.length) (sZ g2 0 hs.length hs.length) (sZ g3 0 ws.length ws.length) bs ps hs ws/\Bl W w'/\ShPl W.1.size w'.1.size w' g0 g1 g2 g3 bs ps.length hs.length ws.length):=ay λW hW=>by
  apply (Jq W x y (g8.o.below (bt V.o hW)) e5.o Oo Oo n8).mono;rintro e w' ⟨g0,g1,g2,g3,rfl,M,h2,h3,h4,h5,h6⟩;exact⟨g0,g1,g2,g3,rfl,M,h2,⟨h3,h4,h5,h6⟩⟩
 have KS:Hh (∀W g gh u0 u1 u2 u3,g<W.1.size->HalfT W g tl.length tl.length tl->IPl W u0 u1 u2 u3 bs ps hs ws->OwnI W gh hd->Cl 6 #[ai k,sZ g 0 tl.length tl.length,.agg #[u0,u1,u2,u3,ai x,ai y],sZ gh 0 hd.length hd.length] W λe w'=>∃(a:OA) (c:Nat),e=.returned (.slice a (enA (qc k tl bs ps hs ws (x,y)) k tl hd).length c)/\ISS w' (.slice a (enA (qc k tl bs ps hs ws (x,y)) k tl hd).length c) (enA (qc k tl bs ps hs ws (x,y)) k tl hd)/\Bl W w'):=ay λW g gh u0 u1 u2 u3 hg M h2 h3=>by
  apply (qB4 W k x y M.its (λW2 x5=>(M.below hg x5).itsC) k8 e4.o h2 e5.o h3.is Oo (λa n c e=>by cases e;exact eA)).mono;rintro e w' ⟨v,rfl,h3,h4⟩;obtain⟨a,c,rfl,-⟩:=id h3;exact⟨a,c,rfl,h3,h4⟩
 have KI:Hh (∀W g gh u0 u1 u2 u3,HalfT W g tl.length tl.length tl->IPl W u0 u1 u2 u3 bs ps hs ws->OwnI W gh hd->Cl 10 #[ai k,sZ g 0 tl.length tl.length,.agg #[u0,u1,u2,u3,ai x,ai y],sZ gh 0 hd.length hd.length] W λe w'=>∃(a:OA) (c:Nat) (us:LV),e=.returned (.slice a (enA (qc k tl bs ps hs ws (x,y)) k tl hd).length c)/\RQ w' W.1.size (.slice a (enA (qc k tl bs ps hs ws (x,y)) k tl hd).length c) us (enA (qc k tl bs ps hs ws (x,y)) k tl hd)/\Bl W w'):=ay λW g gh u0 u1 u2 u3 M h2 h3=>by
  apply (qB0 W k x y M.its k8 e4.o h2 e5.o Oo m8.o h3.is Oo (λa n c e=>by cases e;exact eA)).mono;rintro e w' ⟨v,us,rfl,h3,h5⟩;obtain⟨a,c,rfl⟩:=h3.sl;exact⟨a,c,us,rfl,h3,h5⟩
 generalize enA (qc k tl bs ps hs ws (x,y)) k tl hd=GT at *;have n9:Hh (qS GT):=ay ⟨O1 d8.1,λj=>by
  by_cases hj:j<GT.length;have M:=d8.2 (GT.getD j []) (by rw[gD,gE hj];exact gM _);omega;rw[gD,gN Oo];exact eC⟩
 have h0:Hh (zI GT GT.length<=60000):=ay (by
  have M:∀j,j<=GT.length->zI GT j<=j*6:=λj=>by
   induction j with
   |zero=>intro _;exact eA
   |succ j ih=>
    intro hj;have h2:=ih Oo;have h3:=d8.2 (GT.getD j []) (by rw[gD,gE Oo];exact gM _);show zI GT j+_<=_;omega
  have h4:=M _ eA;have h5:=d8.1;omega)
 have KE:Hh (∀W v v',ISS W v GT->ISS W v' GT->Cl 11 #[v,v'] W λe w'=>e=.returned (.bool true)/\Bl W w'):=ay λW v v' M h2=>Jc W v M h2 n9;have h7:Hh (∀W g1 g2,HalfT W g1 tl.length tl.length tl->HalfT W g2 tl.length tl.length tl->Cl 12 #[sZ g1 0 tl.length tl.length,sZ g2 0 tl.length tl.length] W λe w'=>e=.returned (.bool true)/\Bl W w'):=ay λW g1 g2 M h2=>Jw W M.its h2.its k8 (λj hj=>e4 _ (Qa hj));have k9:Hh (∀W u0 u1 u2 u3 t0 t1 t2 t3,IPl W u0 u1 u2 u3 bs ps hs ws->IPl W t0 t1 t2 t3 bs ps hs ws->Cl 13 #[.agg #[u0,u1,u2,u3,ai x,ai y],.agg #[t0,t1,t2,t3,ai x,ai y]] W λe w'=>e=.returned (.bool true)/\Bl W w'):=ay λW u0 u1 u2 u3 t0 t1 t2 t3 M h2=>qCH W x y M h2 e5 Oo Oo Oo;have B5:GT.length<=10000:=d8.1;clear d8 g7 g8 e4 e5 k4 m8 n9;clear I;have I:∀W:World,Bl W W.drew:=λW=>(bJ _ _).drew;go_upto_region 10 with fail;go_cut [10] (λv8 wx=>∃(a:OA) (c:Nat),v8=.slice a GT.length c/\Hh (ISS wx (.slice a GT.length c) GT/\Bl W0 wx))
 case first=>
  have⟨s0,s1,s2,s3,s4,s5⟩:=b1 _ (bt g9 (I _));have l0:=ay (KT _ (bt g9 (I _)));clear KI KE h7 k9 HT HB K7 h0;go_region_law (first
   |(go_simp;go_at_call 7;apply l0.o.mono;rintro e w3 ⟨rfl,h3,o3,o4⟩;have h8:Bl W0 w3:=bt g9 (bt (I _) o4);have⟨r0,r1,r2,r3,r4,r5⟩:=b1 _ h8)
   |(go_simp;go_at_call 8;apply (KP.o _ h8).mono;rintro e w4 ⟨g0,g1,g2,g3,rfl,x7,d0,-⟩;have o5:=bt h8 d0)
   |(go_simp;go_at_call 9;apply (K2.o _ o5).mono;rintro e y0 ⟨rfl,y1,i8⟩;have l1:=bt d0 i8)
   |(go_simp;go_at_call 6;apply (KS.o _ _ _ _ _ _ _ (bN o3 l1.size) (h3.below o3 l1) (x7.below i8) y1).mono;rintro e w5 ⟨a5,c5,rfl,h5,d9⟩)
   |fail)
  all_goals(go_wp2;go_meet)
  all_goals exact⟨a5,c5,rfl,ay ⟨h5,bt (bt h8 l1) d9⟩⟩
 case rest=>
 obtain⟨a4,c4,rfl,HC⟩:=hcut;generalize wc=w4 at *;have⟨h4,d0⟩:=HC.o;clear HC g9;go_wp2_with fail;apply (KT.o _ d0).mono;rintro e w5 ⟨rfl,h5,o6,d9⟩;have b7:=bt d0 d9;have⟨s0,s1,s2,s3,s4,s5⟩:=b1 _ b7;go_wp2_with fail;apply (KP.o _ b7).mono;rintro e w6 ⟨g0,g1,g2,g3,rfl,l2,i0,o7⟩;have⟨W6,i3⟩:=Ex (w6.alloc (.cells #[sZ g0 0 bs.length bs.length,sZ g1 0 ps.length ps.length,sZ g2 0 hs.length hs.length,sZ g3 0 ws.length ws.length,ai x,ai y] 38));have d1:Bl w6 W6:=by rw[i3];exact(bJ _ _).alloc (nR _) _
 have i4:Hh (PX 38 W6 w6.1.size (sZ g0 0 bs.length bs.length) (sZ g1 0 ps.length ps.length) (sZ g2 0 hs.length hs.length) (sZ g3 0 ws.length ws.length) x y):=ay (by rw[i3];exact PX.made _ _ _ _ _ _ _ _);clear s0 s1 s2 s3 s4 s5;go_upto_region 13 with fail;rw[<-i3];clear i3;go_wp2_with fail;apply (K2.o _ (bt b7 (bt i0 d1))).mono;rintro e b8 ⟨rfl,e6,b9⟩;have⟨s0,s1,s2,s3,s4,s5⟩:=(i4.o.below b9).six;go_wp2_with fail;refine(KI.o _ _ _ _ _ _ _ (h5.below o6 (bt (bt i0 d1) b9)) (l2.below (bt d1 b9)) e6).mono ?_;rintro e w7 ⟨a7,c7,us,rfl,q7,e7⟩;have o8:Bl W6 w7:=bt b9 e7;clear s0 s1 s2 s3 s4 s5;have i5:Bl w5 w7:=bt i0 (bt d1 o8);go_wp2_with fail;apply (KE.o _ _ _ (q7.rs.iss eB) (h4.below (bt d9 i5))).mn;intro w8 o9;go_wp2_with fail;apply (KT.o _ (bt b7 (bt i5 o9))).mn;rintro w9 ⟨h9,B7,y3⟩;have p1:Bl w7 w9:=bt o9 y3;go_wp2_with fail;apply (h7.o _ _ _ (h5.below o6 (bt i5 p1)) h9).mn;intro K p2;have c8:Bl w7 K:=bt p1 p2;have i9:Bl w5 K:=bt i5 c8;have e8:Bl W6 K:=bt o8 c8;have p3:IPl K (sZ g0 0 bs.length bs.length) (sZ g1 0 ps.length ps.length) (sZ g2 0 hs.length hs.length) (sZ g3 0 ws.length ws.length) bs ps hs ws:=l2.below (bt d1 e8);have l3:Hh (∀W,Bl K W->aC W w6.1.size 0 (sZ g0 0 bs.length bs.length)/\aC W w6.1.size 1 (sZ g1 0 ps.length ps.length)/\aC W w6.1.size 2 (sZ g2 0 hs.length hs.length)/\aC W w6.1.size 3 (sZ g3 0 ws.length ws.length)/\aC W w6.1.size 4 (ai x)/\aC W w6.1.size 5 (ai y)):=ay λW hW=>(i4.o.below (bt e8 hW)).six;have i6:Hh (Bl W0 K):=ay (bt b7 i9);go_upto_region 19 with fail;go_cut [64] (λv wx=>v=.bool false/\Hh (Bl K wx))
 case first=>
  have⟨s0,s1,s2,s3,s4,s5⟩:=b1 _ (bt i6 (I _));have⟨t0,t1,t2,t3,t4,t5⟩:=l3 _ (I _);clear KI KE h7 KS HT HB KT K2 K7 h0;go_region_law (first
   |(go_simp;go_at_call 8;apply (ay (KP _ (bt i6 (I _)))).o.mono;rintro e l4 ⟨f0,f1,f2,f3,rfl,p4,l5,-⟩;have e9:Bl K l4:=bt (I _) l5;have⟨r0,r1,r2,r3,r4,r5⟩:=l3 _ e9)
   |(go_simp;go_at_call 13;apply (k9.o _ _ _ _ _ _ _ _ _ (p3.below e9) p4).mono;rintro e c9 ⟨rfl,p5⟩)
   |fail)
  all_goals(go_wp2;go_meet)
  all_goals exact⟨rfl,ay (bt e9 p5)⟩
 case rest=>
 obtain⟨rfl,p6⟩:=hcut;generalize wc=w12a at *;have a6:=p6.o;clear p6;go_wp2_with fail;apply (K2.o _ (bt i6.o a6)).mn;rintro p7 ⟨p8,f7⟩;have p9:Bl b8 p7:=bt e7 (bt c8 (bt a6 f7));go_wp2_with fail;apply (K7.o _ _ _ (e6.below p9) p8).mn;intro c9 l6;have a8:Bl K c9:=bt a6 (bt f7 l6);have j0:Bl w5 c9:=bt i9 a8;have f8:Bl W6 c9:=bt e8 a8;have z45:w4.1.size<=w5.1.size:=d9.size;have y5:w5.1.size<=w6.1.size:=i0.size;have z66:w6.1.size<=W6.1.size:=d1.size;have A8:W6.1.size<=c9.1.size:=f8.size;have f9:Bl b8 c9:=bt e7 (bt c8 a8);have B8:W6.1.size<=b8.1.size:=b9.size;have z3:b8.1.size<=c9.1.size:=f9.size;go_wp2_with fail;apply (Jl tl.length (λi hi=>(h5.sh i hi).kp (Mk.of_below j0)) HB.o).mono;rintro e z4 ⟨z5,rfl,q0,m13⟩;have j1:=(i4.o.below f8).frG m13.fr y5;have⟨s0,s1,s2,s3,s4,s5⟩:=j1.six;have j2:=(o7.kp (Mk.of_below (bt d1 f8))).kpA m13;have q1:=m13.fr.size;go_wp2_with fail;apply (qCA z5 bs.length ps.length hs.length ws.length x y j2 x4 v9 x3 n8 Oo).mono;rintro e q2 ⟨q3,rfl,q4,m14⟩;clear s0 s1 s2 s3 s4 s5;have q5:=m14.fr.size;have q6:OwnI q2 W6.1.size hd:=by
  have q8:=e6.below f9;have A9:=q8.lt;exact(q8.move (m13.fr.block _ Oo (Or.inr Oo)) q1).move (m14.fr.block _ Oo (Or.inr Oo)) q5
 go_wp2_with fail;apply (yY _ _ hd.length q3 (q6.sh eA e6.lt) Oo Oo).mn;intro g4 d3;have B0:=d3.fr.size;have l7:RQ g4 b8.1.size (.slice a7 GT.length c7) us GT:=(((q7.below (bt c8 a8)).frJ m13.fr Oo).frJ m14.fr Oo).frJ d3.fr eA;have j3:Bl w4 g4:=(bt d9 j0).trans ((m13.fr.belJ Oo).trans (((m14.fr.belJ Oo).mono z45).trans ((d3.fr.belJ Oo).mono Oo)));have B9:¬(((q3+hd.length:Nat):Int)<0):=Oo;go_wp2_with fail;apply (KE.o _ _ _ (l7.rs.iss eB) (h4.below j3)).mn;intro q9 g5;have d2:=l7.below g5;have z7:zI GT GT.length<=60000:=h0;go_wp2_with fail;have r6:=qJJ 1 d2 (λi j z8 hj g M=>d2.ap i j z8 hj g M) Oo Oo Oo Oo;apply r6.mn;intro a9 m16;have l8:=qJK (.slice a7 _ c7) 1 ⟨_,_,rfl⟩ (λi hi=>by
  obtain⟨g,cap,e,-,hc⟩:=d2.get hi;refine⟨g,cap,e,?_⟩;have ht:=qK d2.own (g:=g) (by rw[e];rfl);exact(bF (m16.far g λi hi=>own_ne (d2.each i hi) ht Dd)).trans hc) (λi hi=>by
  have⟨a,c,e⟩:=xT (d2.each i hi);exact⟨a,_,c,e⟩) (λi hi=>m16.held i hi _ (λq _=>rfl) eA) Oo Oo Oo Oo
 obtain⟨LQ,r7⟩:=Ex (zI GT GT.length);rw[<-r7]at l8 z7 |-;clear r7 h0 r6;have r8:=ay l8;clear l8;go_wp2_with fail;apply r8.o.mn;intro z9 r9;obtain rfl:a9=z9:=r9.symm;have i17:¬((1:Int)+(LQ:Int)<0):=Oo;have B1:=g5.size;have j4:Bl w4 a9:=(bt j3 g5).trans (m16.bel.mono Oo);have O:Bl W0 a9:=d0.trans (j4.mono d0.size);clear r8 l7 d2 m16 q6 q7 h5 h9 m13 m14 d3 j2 o7 l2 p3 j1 i4 l3 i6 q0 q4 e6;go_upto_region 37 with fail;go_cut [18] (λv8 wx=>∃(a:OA) (c:Nat),v8=.slice a GT.length c/\Hh (ISS wx (.slice a GT.length c) GT/\Bl a9 wx))
 case first=>
  obtain⟨s0,s1,s2,s3,s4,s5⟩:=b1 _ (bt O (I _));have l0:=ay (KT _ (bt O (I _)));clear KS KE h7 k9 HT HB K7;go_region_law (first
   |(go_simp;go_at_call 7;apply l0.o.mn;rintro l9 ⟨A0,s6,m0⟩;have d4:Bl a9 l9:=bt (I _) m0;obtain⟨r0,r1,r2,r3,r4,r5⟩:=b1 _ (bt O d4))
   |(go_simp;go_at_call 8;apply (KP.o _ (bt O d4)).mono;rintro e A1 ⟨f0,f1,f2,f3,rfl,s7,j5,-⟩;have m1:=bt O (bt d4 j5))
   |(go_simp;go_at_call 9;apply (K2.o _ m1).mn;rintro s8 ⟨s9,g6⟩;have j6:=bt j5 g6)
   |(go_simp;go_at_call 10;apply (KI.o _ _ _ _ _ _ _ (A0.below s6 j6) (s7.below g6) s9).mono;rintro e m2 ⟨a20,m3,B2,rfl,A2,d5⟩;have A3:ISS m2 (.slice a20 GT.length m3) GT:=A2.rs.iss eB)
   |fail)
  all_goals(go_wp2;go_meet)
  all_goals exact⟨a20,m3,rfl,ay ⟨A3,bt (bt d4 j6) d5⟩⟩
 case rest=>
 obtain⟨a20,m3,rfl,HC⟩:=hcut;generalize wc=m2 at *;obtain⟨A4,d5⟩:=HC.o;clear HC;go_wp2_with fail;apply (KE.o _ _ _ A4 (h4.below (bt j4 d5))).mn;intro C0 t6;have A5:=bt (bt V O) (bt d5 t6);go_wp2;go_ret;exact⟨rfl,A5⟩
end Go.Proofs.YtnpgdnaeghilhaaGreat
namespace Go.Proofs.YtnpgdnaeghilhaaGreat.FEnum
open Go.ChangeShapes Go.WideShapes Go.ChangeAt Go.RowKit Go.Joins
theorem lifted(os:Os)(started:os.Started)(H:Type)(enc:TypeId×Value->H):
 ReturnsInHanded {} Tryz.checked os 3 .any (Rows.fnExactEnumerateSpec.pre6 enc Tryz.prog Tryz.f3 Rows.fnExactEnumerateRow.domain false) (Rows.fnExactEnumerateSpec.post enc Tryz.prog Tryz.f3 false true false false):=by
 refine returnsInHanded_of_change (C:=Tryz.checked) Tryz.ownK started Kl Tryz.func3
  (ChangeSpec.witness6 (enc:=enc) (C:=Tryz.checked) false ⟨#[],#[ai 0,sn,.agg #[sn,sn,sn,sn,ai 0,ai 0],sn],[]⟩ 8 Kl Kl Kl Kl) ?_
 intro W base args ds gs before K hW _ _;have I:∀(j:Nat) t v,Tryz.f3.params[j]?=some t->args[j]?=some v->Value.okWide Tryz.prog W .any base t v:=K;have a8:=hW;obtain⟨p,q,O,hV,rfl,_,_⟩:=hW;have hA:DataW.TrodAll enc Tryz.prog W 0 (λ_=>true) true Tryz.f3.params.toList args.toList ds p:=O;rw[Tryz.params3]at hA I;obtain⟨v0,b1,d0,b7,p0,q0,a9,rfl,rfl,h0,r0⟩:=trodAll_cons hA;obtain⟨v1,b8,d1,b9,p1,q1,rfl,rfl,rfl,h1,r1⟩:=trodAll_cons r0;obtain⟨v2,c7,d2,c8,p2,q2,rfl,rfl,rfl,h2,r2⟩:=trodAll_cons r1;obtain⟨v3,c9,d3,d4,p3,q3,rfl,rfl,rfl,h3,r3⟩:=trodAll_cons r2;obtain⟨rfl,rfl,rfl⟩:=trodAll_nil r3;obtain rfl:args=#[v0,v1,v2,v3]:=by cases args;simp_all
 obtain⟨rfl,rfl⟩:=trodVars_none hV;have k0:=h0;have k1:=h1;have k2:=h2;have k3:=h3;have lt0:∀x∈p0,x.block<W.1.size:=by obtain⟨m,M⟩:=k0;exact DataW.trod_lt m _ _ _ M
 have lt1:∀x∈p1,x.block<W.1.size:=by obtain⟨m,M⟩:=k1;exact DataW.trod_lt m _ _ _ M
 have lt2:∀x∈p2,x.block<W.1.size:=by obtain⟨m,M⟩:=k2;exact DataW.trod_lt m _ _ _ M
 have lt3:∀x∈p3,x.block<W.1.size:=by obtain⟨m,M⟩:=k3;exact DataW.trod_lt m _ _ _ M
 obtain⟨k,rfl,-,-,-⟩:=open_int Tryz.underlying3 (I 0 3 v0 rfl rfl) h0;obtain⟨a1,V,a4,rfl⟩:=okWide_slice Tryz.underlying22 (I 1 22 v1 rfl rfl);obtain⟨tl,i1,f1,t1,w1⟩:∃tl,ITs W (.slice a1 V a4) tl/\tl.length<=9223372036854775807/\(∀t∈tl,TvF t)/\∀t∈tl,Wf t.rows:=by
  obtain⟨fuel,hf⟩:=h1;exact JY (by simpa[Value.cells]using hf)
 obtain⟨cs,rfl,hsz⟩:=okWide_struct Tryz.underlying29 (I 2 29 v2 rfl rfl);obtain⟨c0,c1,c2,c3,c4,c5,rfl⟩:=qHg (hsz.trans Tryz.cellsPl);obtain⟨u0,u1,u2,u3,a,b,bs,ps,hs,ws,a5,i2,g0,g1,g2,g3⟩:∃v0 v1 v2 v3 a b bs ps hs ws,[c0,c1,c2,c3,c4,c5]=[v0,v1,v2,v3,ai a,ai b]/\IPl W v0 v1 v2 v3 bs ps hs ws/\Fits bs/\ps.length<=9223372036854775807/\hs.length<=9223372036854775807/\ws.length<=9223372036854775807:=by
  obtain⟨fuel,hf⟩:=h2;exact qAU (by simpa[Value.cells]using hf)
 simp only[List.cons.injEq,and_true]at a5;obtain⟨rfl,rfl,rfl,rfl,rfl,rfl⟩:=a5;obtain⟨a3,a6,a7,rfl⟩:=okWide_slice Tryz.underlying24 (I 3 24 v3 rfl rfl);obtain⟨hd,i3,f3⟩:∃l,IS W (.slice a3 a6 a7) l/\l.length<=9223372036854775807:=by
  obtain⟨fuel,hf⟩:=h3;exact y6 (by simpa[Value.cells]using hf)
 clear O K;refine(qB2 W c0 c1 c2 c3 k a b tl bs ps hs ws hd i1 i2 f1 t1 g0 g1 g2 g3 w1 i3 f3).mono λe W' ⟨he,bel⟩=>?_;subst he;exact⟨_,rfl,_,_,_,[],_,[],a8,trodAll_mk1 (shut_bool Tryz.underlying4 _),(trodAll_cons_mk (Below.trod Tryz.laidO Kl (of_decide_eq_true Kl) k0 bel lt0) (trodAll_cons_mk (Below.trod Tryz.laidO Kl (of_decide_eq_true Kl) k1 bel lt1) (trodAll_cons_mk (Below.trod Tryz.laidO Kl (of_decide_eq_true Kl) k2 bel lt2) (trodAll_cons_mk (Below.trod Tryz.laidO Kl (of_decide_eq_true Kl) k3 bel lt3) trodAll_mk0)))),rfl,bel.frame _,λh=>by cases h⟩
end Go.Proofs.YtnpgdnaeghilhaaGreat.FEnum
namespace Go.Proofs.YtnpgdnaeghilhaaGreat
theorem fnExactEnumerate_holds:Rows.FnExactEnumerateSaid:=
 OpenClaim.holds_of_wide 3 Tryz.f3 rfl rfl rfl rfl rfl rfl rfl ⟨rfl,rfl,rfl,rfl,rfl⟩ rfl rfl rfl rfl rfl Kl Tryz.func3 Kl
  (of_decide_eq_true Kl) (by unfold Func.isWrapper;first|(rw[fE (by decide+kernel)];kernel_rfl)|(rw[fF (by decide+kernel)];exact⟨rfl,rfl⟩))
  (λos started H enc _=>FEnum.lifted os started H enc)
#print axioms fnExactEnumerate_holds
end Go.Proofs.YtnpgdnaeghilhaaGreat
