import Derived.Test.YtjbpgdpciinlcaaGreatBg47
import Derived.Test.YtjbpgdpciinlcaaGreatBg48
import Derived.Test.YtjbpgdpciinlcaaGreatBg49
set_option maxHeartbeats 40000000
set_option maxRecDepth 1000000
namespace Go.Proofs.YtjbpgdpciinlcaaGreat
open Go.RowKit Meet
variable {bs:List (List Int)}{tl:List TbV}{hi hi' lo lo':Nat}{W W' a b:World}
theorem qCq{k:Int}{ps hs:List Int}{ws:List (Int×Int)}{x:Int×Int}:(zZ k tl bs ps hs ws x).length<=12/\∀t∈zZ k tl bs ps hs ws x,TvOk t:=by
 unfold zZ;by_cases h:Qm k tl bs ps hs ws x=true
 ·rw[if_pos h];unfold Qm at h;rw[bA]at h;obtain⟨-,-,r3,-,r5⟩:=xx h.1;refine⟨by rw[lM];exact r3,fun t ht=>?_⟩;obtain⟨b,hb,rfl⟩:=List.mem_map.1 ht;obtain⟨i,hi,rfl⟩:=gO hb;have:=(r5 i hi).2;rw[gD,gE hi]at this;exact qDs this
 ·rw[if_neg h];exact⟨by simp,fun t ht=>by cases ht⟩
theorem Je:∀{l:List Nat} {x:Nat},x∈l->x<=l.sum
 |y::l,x,h=>by
  rw[List.sum_cons];rcases List.mem_cons.1 h with rfl|h1
  ·omega
  ·have:=Je h1;omega
theorem qCr(h:tl.length+zz tl<=1048576):∀t∈tl,TvS t:=fun t ht=>by
 have h1:szB t<=zz tl:=Je (List.mem_map.2 ⟨t,ht,rfl⟩);unfold szB at h1;have h2:t.rows.length<=tot t.rows t.rows.length:=by unfold tot;omega
 exact⟨by omega,⟨by omega,fun j=>by have:=Qh t.rows j;omega⟩,by omega⟩
theorem Fr.belG(h:Fr lo hi a b)(hs:lo<=a.heap.size):Below lo a b:=⟨h.os,h.tape,h.output,h.size,fun x hx=>h.block x (by omega) (Or.inl hx)⟩
theorem TBs.frG{B:Nat}{v:Value}{rl:List TbR}(h:TBs a B v rl)(hf:Fr lo hi a b)(hB:hi<=B):TBs b B v rl:=by
 have mv:∀{e:TypeId} {s n:Nat} {u:Value} {xs:List Value},a.ownsRow B e s u n xs->b.ownsRow B e s u n xs:=fun ho=>qC ho fun g hg=>hf.block g (ho.lt g hg).2 (Or.inr (bK hB (ho.lt g hg).1));exact⟨mv h.own,fun t ht=>⟨mv (h.each t ht).o0,⟨mv (h.each t ht).rq.own,(h.each t ht).rq.len,fun i hi=>mv ((h.each t ht).rq.each i hi),(h.each t ht).rq.ap⟩,mv (h.each t ht).o2,(h.each t ht).a02,(h.each t ht).a0,(h.each t ht).a2⟩,h.ap⟩
theorem PX.frG{p:Nat}{ty:TypeId}{v0 v1 v2 v3:Value}{x y:Int}(h:PX ty a p v0 v1 v2 v3 x y)(hf:Fr lo hi a b)(hp:hi<=p):PX ty b p v0 v1 v2 v3 x y:=⟨(hf.block p h.lt (Or.inr hp)).trans h.blk⟩
theorem ShI.kpA{g n:Nat}(h:ShI lo hi W g n)(k:Mk lo' hi' W W'):ShI lo hi W' g n:=
 ⟨h.lo,h.hi,bM h.lt k.fr.size,fun j hj=>by obtain⟨x,e⟩:=h.cell j hj;exact k.num _ _ _ e,fun j hj=>k.froz _ _ h.lt (h.free j hj)⟩
theorem ShPl.kpA{g0 g1 g2 g3:Nat}{np nh nw:Nat}(h:ShPl lo hi W g0 g1 g2 g3 bs np nh nw)(k:Mk lo' hi' W W'):ShPl lo hi W' g0 g1 g2 g3 bs np nh nw:=
 ⟨fun j hj=>by obtain⟨c,e,hc⟩:=h.b j hj;exact⟨c,k.sl _ _ _ _ _ e,hc.kpA k⟩,h.p.kpA k,h.h.kpA k,h.d.kpA k⟩
theorem Yy(w:World)(vt v0 v1 v2 v3:Value)(k x y:Int)(tl:List TbV)(bs:List (List Int))(ps hs:List Int)(ws:List (Int×Int))(h:ITs w vt tl)(hp:IPl w v0 v1 v2 v3 bs ps hs ws)(hl:tl.length<=9223372036854775807)(hs':∀t∈tl,TvF t)(hf:Fits bs)(hps:ps.length<=9223372036854775807)(hhs:hs.length<=9223372036854775807)(hws:ws.length<=9223372036854775807):
 Cl 3 #[.int .i64 k,vt,.agg #[v0,v1,v2,v3,.int .i64 x,.int .i64 y]] w fun e w'=>e=.returned (.bool true)/\Bl w w':=by
 have hmix:Tryz.prog.follows .mixedOrders=true:=by kernel_rfl
 have hbd:∀W:World,Bl W W.drew:=fun W=>(bI _ _).drew;have HIT:=hid h;have HIP:=hid hp;obtain⟨at',ct,evt,-⟩:=id h;obtain⟨a0,k0,e0,-⟩:=id hp.b;obtain⟨a1,k1,e1,-⟩:=id hp.p;obtain⟨a2,k2,e2,-⟩:=id hp.h;obtain⟨a3,k3,e3,-⟩:=id hp.d;subst evt e0 e1 e2 e3;obtain⟨W0,hW0⟩:∃W0,W0=w.alloc (.cells #[.slice a0 bs.length k0,.slice a1 ps.length k1,.slice a2 hs.length k2,.slice a3 ws.length k3,.int .i64 x,.int .i64 y] 29):=⟨_,rfl⟩;have HB0:Hid (Bl w W0):=hid (by rw[hW0];exact(bI _ _).alloc (nR _) _);have HX0:Hid (PX 29 W0 w.heap.size (.slice a0 bs.length k0) (.slice a1 ps.length k1) (.slice a2 hs.length k2) (.slice a3 ws.length k3) x y):=hid (by rw[hW0];exact PX.made _ _ _ _ _ _ _ _);have KZ:=hid (Xo W0 _ tl 1048576 (HIT.out.below HB0.out) hl hs' (nR _));have KZ2:Hid (∀W (z:Int),Bl W0 W->0<=z->z<=1048576->Cl 5 #[.agg #[.slice a0 bs.length k0,.slice a1 ps.length k1,.slice a2 hs.length k2,.slice a3 ws.length k3,.int .i64 x,.int .i64 y],.int .i64 z] W fun e w'=>e=.returned (.int .i64 (szP bs ps hs ws z))/\Bl W w'):=hid fun W z hW h1 h2=>UR W _ _ _ _ x y bs ps hs ws z (HIP.out.below (bt HB0.out hW)) hf hps hhs hws h1 h2;have HSX:Hid (∀W,Bl W0 W->W.cell? ⟨w.heap.size,0,none⟩=some (.slice a0 bs.length k0)/\W.cell? ⟨w.heap.size,1,none⟩=some (.slice a1 ps.length k1)/\W.cell? ⟨w.heap.size,2,none⟩=some (.slice a2 hs.length k2)/\W.cell? ⟨w.heap.size,3,none⟩=some (.slice a3 ws.length k3)/\W.cell? ⟨w.heap.size,4,none⟩=some (.int .i64 x)/\W.cell? ⟨w.heap.size,5,none⟩=some (.int .i64 y)):=hid fun W hW=>(HX0.out.below hW).six;clear h hp hs' hf hps hhs hws HX0;go_enter Tryz.func3,Tryz.ntmps3
 go_upto_region 1 with fail
 rw[<-hW0];clear hW0;go_wp2_with fail
 refine KZ.out.mono ?_;rintro e w1 ⟨z,rfl,hz,hb1⟩;by_cases hzn:z < 0
 ·go_wp2_with fail
  go_ret;exact⟨rfl,bt HB0.out hb1⟩
 obtain⟨hB,hz6⟩:=hz (by omega);have HB:=hid hB;have hzn2:¬(z < 0):=hzn;obtain⟨s0,s1,s2,s3,s4,s5⟩:=HSX.out w1 hb1;have KZ3:=hid (KZ2.out w1 z hb1 (by omega) hz6);clear hz KZ KZ2;obtain⟨sz,hsz⟩:∃sz,sz=szP bs ps hs ws z:=⟨_,rfl⟩;rw[<-hsz]at KZ3
 have HSZ:Hid (¬sz < 0->tot bs bs.length+ps.length+hs.length+ws.length<=1048576):=hid fun h=>by
  rw[hsz]at h;unfold szP at h;by_cases hg:z < tot bs bs.length+ps.length+hs.length+ws.length
  ·rw[if_pos hg]at h;omega
  ·omega
 clear hsz hB;go_wp2_with fail
 refine KZ3.out.mono ?_;rintro e w2 ⟨rfl,hb2⟩;by_cases hsn:sz < 0
 ·go_wp2_with fail
  go_ret;exact⟨rfl,bt (bt HB0.out hb1) hb2⟩
 have hT:=HSZ.out (by omega);have hsn2:¬(sz < 0):=hsn;have HB2:=hid (bt hb1 hb2);have HT:=hid hT;clear s0 s1 s2 s3 s4 s5 KZ3 HSZ hb1 hb2 hz6 hzn hzn2 hl;have HSv:=hid (qCr HB.out);have HSb:Hid (qQ bs):=hid (Vh (by have:=HT.out;omega));have hln:tl.length<=1048576:=by have:=HB.out;omega
 have hlb:bs.length<=1048576:=by have:=HT.out;unfold tot at this;omega
 have hlp:ps.length<=1048576:=by omega
 have hlh:hs.length<=1048576:=by omega
 have hlw:ws.length<=1048576:=by omega
 have htb:tot bs bs.length<=1048576:=by omega
 clear hT;have HOK:=hid (qCq (k:=k) (tl:=tl) (bs:=bs) (ps:=ps) (hs:=hs) (ws:=ws) (x:=(x,y)));have KT:Hid (∀W,Bl W0 W->Cl 7 #[.slice at' tl.length ct] W fun e w'=>e=.returned (.slice (some ⟨W.heap.size,0,none⟩) tl.length tl.length)/\HalfT w' W.heap.size tl.length tl.length tl/\W.heap.size < w'.heap.size/\Bl W w'):=hid fun W hW=>Xp W _ tl (HIT.out.below (bt HB0.out hW)) (by omega) HSv.out
 have KP:Hid (∀W,Bl W0 W->Cl 8 #[.agg #[.slice a0 bs.length k0,.slice a1 ps.length k1,.slice a2 hs.length k2,.slice a3 ws.length k3,.int .i64 x,.int .i64 y]] W fun e w'=>∃g0 g1 g2 g3,e=.returned (.agg #[.slice (some ⟨g0,0,none⟩) bs.length bs.length,.slice (some ⟨g1,0,none⟩) ps.length ps.length,.slice (some ⟨g2,0,none⟩) hs.length hs.length,.slice (some ⟨g3,0,none⟩) ws.length ws.length,.int .i64 x,.int .i64 y])/\IPl w' (.slice (some ⟨g0,0,none⟩) bs.length bs.length) (.slice (some ⟨g1,0,none⟩) ps.length ps.length) (.slice (some ⟨g2,0,none⟩) hs.length hs.length) (.slice (some ⟨g3,0,none⟩) ws.length ws.length) bs ps hs ws/\Bl W w'/\ShPl W.heap.size w'.heap.size w' g0 g1 g2 g3 bs ps.length hs.length ws.length):=hid fun W hW=>by
  refine(Yo W _ _ _ _ x y bs ps hs ws (HIP.out.below (bt HB0.out hW)) HSb.out (by omega) (by omega) hlw).mono ?_;rintro e w' ⟨g0,g1,g2,g3,rfl,h1,h2,h3,h4,h5,h6⟩;exact⟨g0,g1,g2,g3,rfl,h1,h2,⟨h3,h4,h5,h6⟩⟩
 have KS:Hid (∀W g u0 u1 u2 u3,HalfT W g tl.length tl.length tl->IPl W u0 u1 u2 u3 bs ps hs ws->Cl 6 #[.int .i64 k,.slice (some ⟨g,0,none⟩) tl.length tl.length,.agg #[u0,u1,u2,u3,.int .i64 x,.int .i64 y]] W fun e w'=>∃(a:Option Addr) (c:Nat),e=.returned (.tuple #[.slice a (zZ k tl bs ps hs ws (x,y)).length c,.int .i64 (xU k tl bs ps hs ws (x,y))])/\ITs w' (.slice a (zZ k tl bs ps hs ws (x,y)).length c) (zZ k tl bs ps hs ws (x,y))/\Bl W w'):=hid fun W g u0 u1 u2 u3 h1 h2=>by
  refine(KK W _ u0 u1 u2 u3 k x y tl bs ps hs ws h1.its hln HSv.out h2 HSb.out).mono ?_;rintro e w' ⟨v,rfl,h3,h4⟩;obtain⟨a,c,rfl,-⟩:=id h3;exact⟨a,c,rfl,h3,h4⟩
 have KI:Hid (∀W g u0 u1 u2 u3,HalfT W g tl.length tl.length tl->IPl W u0 u1 u2 u3 bs ps hs ws->Cl 9 #[.int .i64 k,.slice (some ⟨g,0,none⟩) tl.length tl.length,.agg #[u0,u1,u2,u3,.int .i64 x,.int .i64 y]] W fun e w'=>∃(a:Option Addr) (c:Nat) (rl:List TbR),e=.returned (.tuple #[.slice a (zZ k tl bs ps hs ws (x,y)).length c,.int .i64 (xU k tl bs ps hs ws (x,y))])/\TBs w' W.heap.size (.slice a (zZ k tl bs ps hs ws (x,y)).length c) rl/\rl.map tvB=zZ k tl bs ps hs ws (x,y)/\Bl W w'):=hid fun W g u0 u1 u2 u3 h1 h2=>by
  refine(KG W _ u0 u1 u2 u3 k x y tl bs ps hs ws h1.its hln HSv.out h2 HSb.out (by omega)).mono ?_;rintro e w' ⟨v,rl,rfl,h3,h4,h5⟩;obtain⟨a,c,rfl,-⟩:=id h3.its;rw[h4]at h3 ⊢;exact⟨a,c,rl,rfl,h3,h4,h5⟩
 generalize zZ k tl bs ps hs ws (x,y)=GT at *;generalize xU k tl bs ps hs ws (x,y)=GV at *;obtain⟨m,hm⟩:∃m,m=GT.length:=⟨_,rfl⟩;rw[<-hm]at KS KI;have hm12:m<=12:=by rw[hm];exact HOK.out.1
 have KE:Hid (∀W v u,ITs W v GT->ITs W u GT->Cl 10 #[v,u] W fun e w'=>e=.returned (.bool true)/\Bl W w'):=hid fun W v u h1 h2=>Ja W v u GT h1 h2 (by rw[<-hm];omega) (fun j hj=>HOK.out.2 _ (by rw[gD,gE hj];exact gM _));have KEx:Hid (∀W g1 g2,HalfT W g1 tl.length tl.length tl->HalfT W g2 tl.length tl.length tl->Cl 10 #[.slice (some ⟨g1,0,none⟩) tl.length tl.length,.slice (some ⟨g2,0,none⟩) tl.length tl.length] W fun e w'=>e=.returned (.bool true)/\Bl W w'):=hid fun W g1 g2 h1 h2=>kE W _ _ tl h1.its h2.its hln (fun j hj=>HSv.out _ (jD hj));have KEp:Hid (∀W u0 u1 u2 u3 t0 t1 t2 t3,IPl W u0 u1 u2 u3 bs ps hs ws->IPl W t0 t1 t2 t3 bs ps hs ws->Cl 11 #[.agg #[u0,u1,u2,u3,.int .i64 x,.int .i64 y],.agg #[t0,t1,t2,t3,.int .i64 x,.int .i64 y]] W fun e w'=>e=.returned (.bool true)/\Bl W w'):=hid fun W u0 u1 u2 u3 t0 t1 t2 t3 h1 h2=>JL W u0 u1 u2 u3 t0 t1 t2 t3 x y bs ps hs ws h1 h2 HSb.out (by omega) (by omega) (by omega)
 have HMl:Hid (∀W B v (rl:List TbR),TBs W B v rl->rl.map tvB=GT->Cl 12 #[v,.int .i64 1] W fun e w'=>∃L:Nat,e=.returned (.int .i64 (L:Int))/\Below B W w'/\W.heap.size<=w'.heap.size/\Cl 14 #[v,.int .i64 1] w' fun e w''=>e=.returned (.int .i64 (L:Int))/\w''=w'):=hid fun W B v rl h1 h2=>by
  have h12:rl.length<=12:=by have:=congrArg List.length h2;rw[lM,<-hm]at this;omega
  have hok:∀t∈rl,TvOk (tvB t):=fun t ht=>HOK.out.2 _ (by rw[<-h2];exact List.mem_map.2 ⟨t,ht,rfl⟩);refine(Q0 W B v rl h1 h12 hok).mono ?_;rintro e w' ⟨rfl,h3⟩;exact⟨_,rfl,h3.bel,by rw[h3.size];exact nR _,Q3 W w' B v rl h1 h12 hok h3⟩
 clear hm HOK HIT HIP HSv HSb;have hgg:(GV != GV)=false:=by simp
 clear hbd;have hbd:∀W:World,Bl W W.drew:=fun W=>(bI _ _).drew;go_upto_region 8 with fail
 go_cut [8,9] (fun v8 v9 wx=>∃(a:Option Addr) (c:Nat),v8=.slice a m c/\v9=.int .i64 GV/\Hid (ITs wx (.slice a m c) GT/\Bl W0 wx))
 case first=>
  obtain⟨s0,s1,s2,s3,s4,s5⟩:=HSX.out w2.drew (bt HB2.out (hbd _));have KT1:=hid (KT.out w2.drew (bt HB2.out (hbd _)));clear KI KE KEx KEp HMl HT HB
  go_region_law (first
   |(go_simp;go_at_call 7;refine KT1.out.mono ?_;rintro e w3 ⟨rfl,h3,hl3,hb3'⟩;have hb3:Bl W0 w3:=bt HB2.out (bt (hbd _) hb3');obtain⟨r0,r1,r2,r3,r4,r5⟩:=HSX.out w3 hb3)
   |(go_simp;go_at_call 8;refine(KP.out w3 hb3).mono ?_;rintro e w4 ⟨g0,g1,g2,g3,rfl,hp4,hb4,-⟩)
   |(go_simp;go_at_call 6;refine(KS.out w4 _ _ _ _ _ (h3.below hl3 hb4) hp4).mono ?_;rintro e w5 ⟨a5,c5,rfl,h5,hb5⟩)
   |fail)
  all_goals(go_wp2_with fail;go_meet)
  all_goals exact⟨a5,c5,rfl,rfl,hid ⟨h5,bt (bt hb3 hb4) hb5⟩⟩
 case rest=>
 obtain⟨a4,c4,rfl,rfl,HC⟩:=hcut;generalize wc=w4 at *;obtain⟨h4,hb4⟩:=HC.out;clear HC HB2;go_wp2_with fail
 refine(KT.out _ hb4).mono ?_;rintro e w5 ⟨rfl,h5,hl5,hb5⟩;have hb5w:=bt hb4 hb5;obtain⟨s0,s1,s2,s3,s4,s5⟩:=HSX.out w5 hb5w;go_wp2_with fail
 refine(KP.out _ hb5w).mono ?_;rintro e w6 ⟨g0,g1,g2,g3,rfl,hp6,hb6,sh6⟩;obtain⟨W6,hW6⟩:∃W6,W6=w6.alloc (.cells #[.slice (some ⟨g0,0,none⟩) bs.length bs.length,.slice (some ⟨g1,0,none⟩) ps.length ps.length,.slice (some ⟨g2,0,none⟩) hs.length hs.length,.slice (some ⟨g3,0,none⟩) ws.length ws.length,.int .i64 x,.int .i64 y] 39):=⟨_,rfl⟩;have hB6:Bl w6 W6:=by rw[hW6];exact(bI _ _).alloc (nR _) _
 have HX6:Hid (PX 39 W6 w6.heap.size (.slice (some ⟨g0,0,none⟩) bs.length bs.length) (.slice (some ⟨g1,0,none⟩) ps.length ps.length) (.slice (some ⟨g2,0,none⟩) hs.length hs.length) (.slice (some ⟨g3,0,none⟩) ws.length ws.length) x y):=hid (by rw[hW6];exact PX.made _ _ _ _ _ _ _ _);clear s0 s1 s2 s3 s4 s5;go_upto_region 11 with fail
 rw[<-hW6];clear hW6;obtain⟨s0,s1,s2,s3,s4,s5⟩:=HX6.out.six;go_wp2_with fail
 refine(KI.out W6 _ _ _ _ _ (h5.below hl5 (bt hb6 hB6)) (hp6.below hB6)).mono ?_;rintro e w7 ⟨a7,c7,rl,rfl,q7,e7,hb7⟩;clear s0 s1 s2 s3 s4 s5;have b67:Bl w6 w7:=bt hB6 hb7;have b57:Bl w5 w7:=bt hb6 b67;have i7:ITs w7 (.slice a7 m c7) GT:=by rw[<-e7];exact q7.its
 go_wp2_with fail
 refine(KE.out w7 _ _ i7 (h4.below (bt hb5 b57))).mono ?_;rintro e w8 ⟨rfl,hb8⟩;go_wp2_with fail
 refine(KT.out _ (bt hb5w (bt b57 hb8))).mono ?_;rintro e w9 ⟨rfl,h9,hl9,hb9⟩;have b79:Bl w7 w9:=bt hb8 hb9;go_wp2_with fail
 refine(KEx.out _ _ _ (h5.below hl5 (bt b57 b79)) h9).mono ?_;rintro e w10 ⟨rfl,hb10⟩;have b710:Bl w7 w10:=bt b79 hb10;have b510:Bl w5 w10:=bt b57 b710;have b610:Bl W6 w10:=bt hb7 b710;have hpx:IPl w10 (.slice (some ⟨g0,0,none⟩) bs.length bs.length) (.slice (some ⟨g1,0,none⟩) ps.length ps.length) (.slice (some ⟨g2,0,none⟩) hs.length hs.length) (.slice (some ⟨g3,0,none⟩) ws.length ws.length) bs ps hs ws:=hp6.below (bt hB6 b610);have HSY:Hid (∀W,Bl w10 W->W.cell? ⟨w6.heap.size,0,none⟩=some (.slice (some ⟨g0,0,none⟩) bs.length bs.length)/\W.cell? ⟨w6.heap.size,1,none⟩=some (.slice (some ⟨g1,0,none⟩) ps.length ps.length)/\W.cell? ⟨w6.heap.size,2,none⟩=some (.slice (some ⟨g2,0,none⟩) hs.length hs.length)/\W.cell? ⟨w6.heap.size,3,none⟩=some (.slice (some ⟨g3,0,none⟩) ws.length ws.length)/\W.cell? ⟨w6.heap.size,4,none⟩=some (.int .i64 x)/\W.cell? ⟨w6.heap.size,5,none⟩=some (.int .i64 y)):=hid fun W hW=>(HX6.out.below (bt b610 hW)).six;have HBW:Hid (Bl W0 w10):=hid (bt hb5w b510);go_upto_region 16 with fail
 go_cut [67] (fun v wx=>v=.bool false/\Hid (Bl w10 wx))
 case first=>
  obtain⟨s0,s1,s2,s3,s4,s5⟩:=HSX.out w10.drew (bt HBW.out (hbd _));obtain⟨t0,t1,t2,t3,t4,t5⟩:=HSY.out w10.drew (hbd _);have KP1:=hid (KP.out w10.drew (bt HBW.out (hbd _)));clear KI KE KEx KS HMl HT HB KT
  go_region_law (first
   |(go_simp;go_at_call 8;refine KP1.out.mono ?_;rintro e w11 ⟨f0,f1,f2,f3,rfl,hp11,hb11',-⟩;have hb11:Bl w10 w11:=bt (hbd _) hb11';obtain⟨r0,r1,r2,r3,r4,r5⟩:=HSY.out w11 hb11)
   |(go_simp;go_at_call 11;refine(KEp.out w11 _ _ _ _ _ _ _ _ (hpx.below hb11) hp11).mono ?_;rintro e w12 ⟨rfl,hb12⟩)
   |fail)
  all_goals(go_wp2_with fail;go_meet)
  all_goals exact⟨rfl,hid (bt hb11 hb12)⟩
 case rest=>
 obtain⟨rfl,HC2⟩:=hcut;generalize wc=w12 at *;have b1012:=HC2.out;clear HC2;have b512:Bl w5 w12:=bt b510 b1012;have b612:Bl W6 w12:=bt b610 b1012;have z45:w4.heap.size<=w5.heap.size:=hb5.size;have z56:w5.heap.size<=w6.heap.size:=hb6.size;have z66:w6.heap.size<=W6.heap.size:=hB6.size;have z612:W6.heap.size<=w12.heap.size:=b612.size;go_wp2_with fail
 refine(Yi w12 w4.heap.size w5.heap.size w4.heap.size tl.length tl (fun i hi=>(h5.sh i hi).kp (Mk.of_below b512)) HB.out).mono ?_;rintro e w13 ⟨z13,rfl,hz13,m13⟩;have hx13:=(HX6.out.below b612).frG m13.fr z56;obtain⟨s0,s1,s2,s3,s4,s5⟩:=hx13.six;have sh13:=(sh6.kp (Mk.of_below (bt hB6 b612))).kpA m13;have z13s:=m13.fr.size;go_wp2_with fail
 refine(JE w13 w5.heap.size w6.heap.size g0 g1 g2 g3 z13 ps.length hs.length ws.length bs.length ps.length hs.length ws.length x y bs sh13 htb hlp hlh hlw (by omega)).mono ?_;rintro e w14 ⟨z14,rfl,m14⟩;clear s0 s1 s2 s3 s4 s5;have z14s:=m14.fr.size;have q14:TBs w14 W6.heap.size (.slice a7 m c7) rl:=((q7.below (bt b710 b1012)).frG m13.fr (bK z56 z66)).frG m14.fr z66;have b414:Bl w4 w14:=(bt hb5 b512).trans ((m13.fr.belG (by omega)).trans ((m14.fr.belG (by omega)).mono z45));have i14:¬((z14:Int) < 0):=by omega
 have j14:ITs w14 (.slice a7 m c7) GT:=by rw[<-e7];exact q14.its
 go_wp2_with fail
 refine(KE.out w14 _ _ j14 (h4.below b414)).mono ?_;rintro e w15 ⟨rfl,hb15⟩;go_wp2_with fail
 refine(HMl.out w15 W6.heap.size _ rl (q14.below hb15) e7).mono ?_;rintro e w16 ⟨L,rfl,hb16,hs16,KH⟩;have HKH:=hid KH;clear KH;go_wp2_with fail
 refine HKH.out.mono ?_;rintro e w17 ⟨rfl,hw17⟩;obtain rfl:w16=w17:=hw17.symm;have i16:¬((L:Int) < 0):=by omega
 have hLL:((L:Int) != (L:Int))=false:=by simp
 have z15s:=hb15.size;have b416:Bl w4 w16:=(bt b414 hb15).trans (hb16.mono (by omega));have bW16:Bl W0 w16:=hb4.trans (b416.mono hb4.size);clear HKH q14 j14 i7 q7 h5 h9 m13 m14 sh13 sh6 hp6 hpx hx13 HX6 HSY HBW hz13;go_upto_region 31 with fail
 go_cut [17,18] (fun v8 v9 wx=>∃(a:Option Addr) (c:Nat),v8=.slice a m c/\v9=.int .i64 GV/\Hid (ITs wx (.slice a m c) GT/\Bl w16 wx))
 case first=>
  obtain⟨s0,s1,s2,s3,s4,s5⟩:=HSX.out w16.drew (bt bW16 (hbd _));have KT1:=hid (KT.out w16.drew (bt bW16 (hbd _)));clear KS KE KEx KEp HMl HT HB
  go_region_law (first
   |(go_simp;go_at_call 7;refine KT1.out.mono ?_;rintro e w18 ⟨rfl,h18,hl18,hb18'⟩;have hb18:Bl w16 w18:=bt (hbd _) hb18';obtain⟨r0,r1,r2,r3,r4,r5⟩:=HSX.out w18 (bt bW16 hb18))
   |(go_simp;go_at_call 8;refine(KP.out w18 (bt bW16 hb18)).mono ?_;rintro e w19 ⟨f0,f1,f2,f3,rfl,hp19,hb19,-⟩)
   |(go_simp;go_at_call 9;refine(KI.out w19 _ _ _ _ _ (h18.below hl18 hb19) hp19).mono ?_;rintro e w20 ⟨a20,c20,rl20,rfl,q20,e20,hb20⟩;have j20:ITs w20 (.slice a20 m c20) GT:=(by rw[<-e20];exact q20.its))
   |fail)
  all_goals(go_wp2_with fail;go_meet)
  all_goals exact⟨a20,c20,rfl,rfl,hid ⟨j20,bt (bt hb18 hb19) hb20⟩⟩
 case rest=>
 obtain⟨a20,c20,rfl,rfl,HC⟩:=hcut;generalize wc=w20 at *;obtain⟨h20,hb20⟩:=HC.out;clear HC;go_wp2_with fail
 refine(KE.out w20 _ _ h20 (h4.below (bt b416 hb20))).mono ?_;rintro e w21 ⟨rfl,hb21⟩;have bwz:=bt (bt HB0.out bW16) (bt hb20 hb21);go_wp2_with fail
 go_ret;exact⟨rfl,bwz⟩
end Go.Proofs.YtjbpgdpciinlcaaGreat
