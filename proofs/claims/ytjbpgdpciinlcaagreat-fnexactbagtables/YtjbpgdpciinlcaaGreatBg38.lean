import Derived.Test.YtjbpgdpciinlcaaGreatBg36
import Derived.Test.YtjbpgdpciinlcaaGreatBg37
set_option maxHeartbeats 40000000
set_option maxRecDepth 1000000
namespace Go.Proofs.YtjbpgdpciinlcaaGreat
open Go.RowKit Meet
variable {ps:List (List Int)}{o:List Int}{tl:List TbV}{us:List Value}{B C g g0 g1 g2 h i j k n q r v:Nat}{f:Nat->Nat}{t:TbV}{vr:Value}{W W' X Y w w3:World}
theorem TyR.below{x:JX}(h:TyR x X)(hb:Bl X Y)(hr:x.r < X.heap.size):TyR x Y:=fun k hk=>by
 obtain⟨cur,z,hc⟩:=h k ((RB.eq (hb.block _ hr) k).1 hk);exact⟨cur,z,(hb.block k (qR hc)).trans hc⟩
theorem TyR.old{x:JX}(h:TyR x X)(hb:Bl X Y)(hr:x.r < X.heap.size)(hk:RB x Y k):k < X.heap.size:=by
 obtain⟨cur,z,hc⟩:=h k ((RB.eq (hb.block _ hr) k).1 hk);exact qR hc
theorem qB0{w2 w4:World}{vp vb hvv:Value}{cs:List (Option Addr)}{l:Nat}(hh:h < W.heap.size)(hr:r < W.heap.size)(hv:v < W.heap.size)(hl:l < W.heap.size)(hty:TyR (jx0 h r v) W)
 (hok:∀t∈tl,qc t=true) (hc:Qy tl o) (hl1:tl.length<=1000) (hol:o.length<=1000) (hne:xJ tl=false)
 (hcl:cs.length=tl.length) (hT:∀t,t < tl.length->TrO W.heap.size w2 ((tl.map fun t=>(sdT o t).rows).getD t []) (cs.getD t none)) (hp:w2.ownsRow W.heap.size 3 1 vp 0 []) (hb:w2.ownsRow W.heap.size 137 1 vb tl.length (cs.map Value.pointer)) (hvp:∃g c,vp=.slice (some ⟨g,0,none⟩) 0 c)
 (hB2:Bl W w2) (hB3:Bl w2 w3) (hB4:Bl w3 w4) (hQ:RQ w4 w3.heap.size hvv us (xA tl o)) (hg:∃g,hvv.ownBlock=some g)
 (J:List (List Int)->World->Prop) (Jx:World->Prop) (hJ:∀s X Y,J s X->KT W.heap.size X Y->J s Y) (hJx:∀X Y,Jx X->KT W.heap.size X Y->Jx Y)
 (hY:∀pre x b X Y,J pre X->KT W.heap.size X Y->qBy o.length (qw tl o) pre x b X Y->YieldAt Fence.wide 0 Tryz.prog l #[b] Y fun e Z=>(e=.returned (.bool true)/\J (pre++[x]) Z/\KpS (jx0 h r v) (fun k=>k=l) Y Z)∨(e=.returned (.bool false)/\Jx Z/\KpS (jx0 h r v) (fun k=>k=l) Y Z))
 (h0:J [] W):Cl 109 #[.agg #[vp,vb],hvv,.func (.yield l) #[] #[]] w4 fun e Z=>(∃b,e=.returned (.bool b))/\(J (qw tl o) Z∨Jx Z):=by
 obtain⟨f,g0,g1,ecs,hTR⟩:=qBz hcl hT hne;have h24:=bt hB3 hB4;have hW4:Bl W w4:=bt hB2 h24;have hs2:=hB2.size;have hs3:=hB3.size;obtain⟨x,ex⟩:∃x,x=mkX h r v W.heap.size tl o f g0 g1 hvv us:=⟨_,rfl⟩;have hx:x.Ok:=by rw[ex];exact⟨hh,hr,hv⟩
 have hm:JMx x (nxJ tl o) o.length:=by
  rw[ex]
  exact qBx (fun t ht=>QK (hok t ht)) (fun t ht e=>by
   unfold xJ at hne;rw[List.any_eq_false]at hne;exact hne t ht (decide_eq_true (by rw[e];rfl))) hc hl1 hol
 have hty':TyR x W:=by rw[ex];exact hty
 have hrx:x.r < W.heap.size:=by rw[ex];exact hr
 have hdat:Dat x w4:=by
  refine⟨hty'.below hW4 hrx,fun t ht=>?_,?_,fun k hk hR=>?_⟩
  ·rw[ex]at ht ⊢;exact(hTR t ht).below h24
  ·rw[ex];exact hQ.base (by show W.heap.size<=w3.heap.size;omega)
  ·have h1:=hty'.old hW4 hrx hR;have h2:hvv.ownBlock=some k:=by rw[ex]at hk;exact hk
   have:=(hQ.own.lt k h2).1;omega
 have hbrn:Brn x W.heap.size w4 vp vb []:=by
  refine⟨qB hp h24,?_⟩
  have e1:x.bel []=cs.map Value.pointer:=by
   rw[ecs,ex];unfold JX.bel;rw[List.map_map];rfl
  rw[e1,ex];exact qB hb h24
 have hhv:HVs x o.length 0 hvv:=by
  obtain⟨g,hg⟩:=hg;have hlen:(xA tl o).length=o.length:=by unfold xA;rw[lM]
  rcases hQ.own.2 with ⟨e,-⟩|⟨g',cap,cur,e,-,-,hn,-⟩
  ·rw[e]at hg;cases hg
  ·rw[hlen]at e hn;refine⟨g',0,cap,by rw[ex];show hvv.ownBlock=_;rw[e];rfl,e,fun _=>rfl,?_⟩;have:o.length<=cap:=by omega
   omega
 have hln:l < x.n0:=by rw[ex];exact hl
 have hnx:x.n0=W.heap.size:=by rw[ex];rfl
 have hG:LgG x (nxJ tl o) o.length l:=fun w bB bH vp vb p h1 h2 h3 h4 h5 h6 h7 h8 h9=>YZ x hx (nxJ tl o) o.length hm l w bB bH vp vb p h1 h2 h3 h4 h5 h6 h7 h8 h9
 have hw:=Zi x hx (nxJ tl o) o.length hm (fun p _ h2 y hy=>by rw[ex]at h2 ⊢;exact qBw p h2 y hy) l hln hG (qw tl o) J Jx (by rw[hnx];exact hJ) (by rw[hnx];exact hJx) (fun ps p vp X Y h1 h2 h3 h4 h5 h5'=>by
  rw[hnx]at h2;obtain⟨fn,tmps,assign,body,hy,hR⟩:=hY ps p vp X Y h1 h2 ⟨h3,h4,h5,h5'⟩;refine⟨fn,tmps,assign,body,hy,hR.mono fun e Z h=>?_⟩;rw[ex];rcases h with ⟨h6,h7,h8⟩|⟨h6,h7,h8⟩
  ·exact Or.inl ⟨h6,h7,kp0 h8⟩
  ·exact Or.inr ⟨h6,h7,kp0 h8⟩) o.length [] [] W w4 vp vb hvv (by simp) (by unfold qw;rw[hne];exact List.prefix_rfl) (by rw[ex];exact(Zj []).2 (V9 tl o)) (by rw[hnx];exact nR _) h0 (by rw[hnx];exact KT.of_below hW4 (nR _)) hdat hbrn hvp hhv
 refine hw.mono fun e Z h=>?_;have ep:qw tl o=[]++qp (nxJ tl o) o.length []:=by unfold qw;rw[hne];rfl
 rw[ep];rcases h with ⟨h1,h2,-⟩|⟨h1,h2,-⟩
 ·exact⟨⟨_,h1⟩,Or.inl h2⟩
 ·exact⟨⟨_,h1⟩,Or.inr h2⟩
theorem Zk(h r v:Nat)(w:World)(bT bO:Nat)(vt vo:Value)(tl:List TbV)(o:List Int)(hbT:w.heap[bT]?=some (.cells #[vt] 32 (0,0)))(hbO:w.heap[bO]?=some (.cells #[vo] 24 (0,0)))(hT:ITs w vt tl)(hO:IS w vo o)(hok:∀t∈tl,qc t=true)(hc:Qy tl o)(hl:tl.length<=1000)(hol:o.length<=1000)(hh:h < w.heap.size)(hr:r < w.heap.size)(hv:v < w.heap.size)(hty:TyR (jx0 h r v) w):
 Gives Tryz.prog 106 #[.pointer (some ⟨bT,0,none⟩),.pointer (some ⟨bO,0,none⟩)] (fun vp=>#[vp]) (fun l=>KpS (jx0 h r v) fun k=>k=l) (fun l=>KpS (jx0 h r v) fun k=>k=l) (qBy o.length (qw tl o)) (qw tl o) w:=by
 intro l J Jx W hBw hlW hwl hJ hJx hY h0;show Calls _ _ #[.func (.yield l) #[] #[],.pointer (some ⟨bT,0,none⟩),.pointer (some ⟨bO,0,none⟩)] W _;have hs:=hBw.size
 have HC:Hid (∀W',Bl W W'->W'.cell? ⟨bT,0,none⟩=some vt/\W'.cell? ⟨bO,0,none⟩=some vo/\Bl W W'):=hid fun W' hW'=>by
  have hb:=(hBw).trans (hW'.mono hs);exact⟨by rw[cell_of_row _ _ _ _ _ _ ((hb.block _ (qR hbT)).trans hbT)];rfl,by rw[cell_of_row _ _ _ _ _ _ ((hb.block _ (qR hbO)).trans hbO)];rfl,hW'⟩
 have KR:Hid (∀W',Bl W W'->Cl 107 #[vt,vo] W' fun e w'=>∃(g c:Nat) (vb:Value) (cs:List (Option Addr)),e=.returned (.agg #[.slice (some ⟨g,0,none⟩) 0 c,vb])/\w'.ownsRow W.heap.size 3 1 (.slice (some ⟨g,0,none⟩) 0 c) 0 []/\w'.ownsRow W.heap.size 137 1 vb tl.length (cs.map Value.pointer)/\cs.length=tl.length/\(∀t,t < tl.length->TrO W.heap.size w' ((tl.map fun t=>(sdT o t).rows).getD t []) (cs.getD t none))/\Bl W w'):=hid fun W' hW'=>by
  have hb:=(hBw).trans (hW'.mono hs);refine(Vo W' vt vo tl o (hT.below hb) (hO.below hb) hl hol hok).mono ?_;rintro e w' ⟨g,c,vb,cs,rfl,h1,h2,h3,h4,h5⟩;refine⟨g,c,vb,cs,rfl,qF h1 hW'.size,qF h2 hW'.size,h3,fun t ht=>?_,bt hW' h5⟩;rcases h4 t ht with h6|⟨h6,D,N,f,g0,g1,h7,h8,h9,h10⟩
  ·exact Or.inl h6
  ·exact Or.inr ⟨h6,D,N,f,g0,g1,h7,h8,h9.base hW'.size,h10⟩
 have KW:Hid (∀W',Bl W W'->Cl 110 #[vo,vt] W' fun e w'=>∃v us,e=.returned v/\RQ w' W'.heap.size v us (xA tl o)/\(∃g,v.ownBlock=some g)/\Bl W' w'):=hid fun W' hW'=>by
  have hb:=(hBw).trans (hW'.mono hs);exact Qt W' vt vo tl o (hT.below hb) (hO.below hb) hl hol (fun t ht=>by have:=(QK (hok t ht)).vs;omega)
 have HE:Hid (∀e Z,((∃b,e=Ending.returned (.bool b))/\(J (qw tl o) Z∨Jx Z))->J (qw tl o) Z∨Jx Z):=hid fun e Z h=>h.2
 have HN:Hid (∀Z,Bl W Z->xJ tl=true->J (qw tl o) Z):=hid fun Z hZ he=>by
  have:qw tl o=[]:=by unfold qw;rw[he];rfl
  rw[this];exact hJ _ _ _ h0 (KT.of_below hZ (nR _))
 have hty':TyR (jx0 h r v) W:=hty.below hBw hr;have HK:=hid (fun (w2 w3 w4:World) (vp vb hvv:Value) (us:List Value) (cs:List (Option Addr)) a1 a2 a3 a4 a5 a6 a7 a8 a9 a10 a11=>qB0 (W:=W) (w2:=w2) (w3:=w3) (w4:=w4) (vp:=vp) (vb:=vb) (hvv:=hvv) (us:=us) (cs:=cs) (l:=l) (by omega) (by omega) (by omega) hlW hty' hok hc hl hol a1 a2 a3 a4 a5 a6 a7 a8 a9 a10 a11 J Jx hJ hJx hY h0);obtain⟨at',ct,evt,-⟩:=hT;obtain⟨ao,co,evo,-⟩:=hO;subst evt evo;clear hbT hbO hok hc hJ hJx hY h0 hty hty' hBw hol hh hr hv hlW hwl;obtain⟨n,hn⟩:∃n,n=tl.length:=⟨_,rfl⟩;rw[<-hn]at HC KR KW hl HK;have HNL:=hid hn;clear hn;obtain⟨no,hno⟩:∃no,no=o.length:=⟨_,rfl⟩;rw[<-hno]at HC KR KW;clear hno;go_enter Tryz.func106,Tryz.ntmps106
 obtain⟨cT,cO,-⟩:=HC.out W (bI _ _);go_upto_region 1 with (first|(go_at_call 107;refine(KR.out _ (by first|exact bI _ _|exact(bI _ _).drew|exact qE (bI _ _) _)).mono ?_;rintro e w2 ⟨g2,c2,vb,cs,rfl,ho2,hb2,hl2,hT2,hB2⟩;obtain⟨ab,cb,eb⟩:=xG hb2;subst eb)|fail)
 obtain⟨W3,hW3⟩:∃W3,W3=w2.alloc (.cells #[.slice (some ⟨g2,0,none⟩) 0 c2,.slice ab n cb] 134):=⟨_,rfl⟩;have hb3:Bl w2 W3:=by rw[hW3];exact qE (bI _ _) _
 have hx3:BrX W3 w2.heap.size (.slice (some ⟨g2,0,none⟩) 0 c2) (.slice ab n cb):=by rw[hW3];exact BrX.new w2 _ _
 rw[<-hW3];clear hW3;have k1:=hx3.c1;have KC:=hid (QT W3 W.heap.size n (.slice ab n cb) cs (qB hb2 hb3) hl2 (by omega));have HEM:Hid (jb cs=xJ tl):=hid (Jt (by rw[hl2];exact HNL.out) (by rw[<-HNL.out];exact hT2));rw[HEM.out]at KC;have hB3:Bl W W3:=bt hB2 hb3;have HX3:=hid hx3;have HSS:Hid (∀W',Bl W3 W'->W'.cell? ⟨w2.heap.size,0,none⟩=some (.slice (some ⟨g2,0,none⟩) 0 c2)/\W'.cell? ⟨w2.heap.size,1,none⟩=some (.slice ab n cb)/\W'.cell? ⟨bT,0,none⟩=some (.slice at' n ct)/\W'.cell? ⟨bO,0,none⟩=some (.slice ao no co)/\Bl W3 W'):=hid fun W' hW'=>⟨(HX3.out.below hW').c0,(HX3.out.below hW').c1,(HC.out W' (bt hB3 hW')).1,(HC.out W' (bt hB3 hW')).2.1,hW'⟩;clear hx3 cT cO;cases hem:xJ tl with
 |true=>
  rw[hem]at KC;have HFin:Hid (J (qw tl o) W3∨Jx W3):=hid (Or.inl (HN.out _ hB3 hem));clear hem HN HK KW KR HC HE HEM;go_wp2_with (first|(go_at_call 108;refine KC.out.mono ?_;rintro e w' ⟨rfl,hw⟩;obtain rfl:W3=w':=hw.symm)|fail)
  go_end0
  exact⟨⟨_,rfl⟩,HFin.out⟩
 |false=>
  rw[hem]at KC;have HWk:Hid (∀w3 w4 hvv us,Bl W3 w3->Bl w3 w4->RQ w4 w3.heap.size hvv us (xA tl o)->(∃g,hvv.ownBlock=some g)->Cl 109 #[.agg #[.slice (some ⟨g2,0,none⟩) 0 c2,.slice ab n cb],hvv,.func (.yield l) #[] #[]] w4 fun e Z=>(∃b,e=.returned (.bool b))/\(J (qw tl o) Z∨Jx Z)):=hid fun w3 w4 hvv us h1 h2 h3 h4=>HK.out w2 w3 w4 _ _ hvv us cs hem hl2 hT2 ho2 hb2 ⟨_,_,rfl⟩ hB2 (bt hb3 h1) h2 h3 h4;have KW1:Hid (∀W',Bl W3 W'->Cl 110 #[.slice ao no co,.slice at' n ct] W' fun e w'=>∃v us,e=.returned v/\RQ w' W'.heap.size v us (xA tl o)/\(∃g,v.ownBlock=some g)/\Bl W' w'):=hid fun W' hW'=>KW.out W' (bt hB3 hW');clear hem HN HK KW KR HC HE HEM hT2 ho2 hb2 hB2 hb3 HX3;go_upto_region 2 with (first|(go_at_call 108;refine KC.out.mono ?_;rintro e w' ⟨rfl,hw⟩;obtain rfl:W3=w':=hw.symm)|fail)
  have s0:=HSS.out W3.drew (bI _ _).drew;obtain⟨s1,s2,s3,s4,-⟩:=s0
  go_region_law (first
   |(go_simp;go_at_call 110;refine(KW1.out _ (bI _ _).drew).mono ?_;rintro e w4 ⟨v4,us4,rfl,hQ4,hg4,hb4⟩;obtain⟨r1,r2,r3,r4,-⟩:=HSS.out w4 (bt (bI _ _).drew hb4);obtain⟨a4,c4,e4⟩:=xG hQ4.own;subst e4)
   |(go_simp;go_at_call 109;refine(HWk.out _ w4 _ us4 (bI _ _).drew hb4 hQ4 hg4).mono ?_;rintro e w5 ⟨⟨b5,rfl⟩,h5⟩)
   |fail)
  all_goals go_end0
  all_goals exact⟨⟨_,rfl⟩,h5⟩
theorem uf(w:World)(vt:Value)(tl:List TbV)(h:ITs w vt tl)(hl:tl.length<=1099511627776)(hs:∀t∈tl,TvS t):
 Cl 29 #[vt] w fun e w'=>e=.returned (.bool (tl.all qc))/\Bl w w':=by
 obtain⟨at',ct,rfl,hc⟩:=h
 have HC:Hid (∀W,Bl w W->∀j,j < tl.length->∃b oo,at'=some ⟨b,oo,none⟩/\TabAt W b (oo+j*3) (tl.getD j qA)):=hid fun W hW j hj=>by
  rcases hc with h0|⟨b,oo,rfl,h⟩
  ·omega
  ·exact⟨b,oo,rfl,(h j hj).below hW⟩
 have HR:Hid (∀j,j < tl.length->TvS (tl.getD j qA)):=hid fun j hj=>hs _ (by rw[gD,gE hj];exact gM _);obtain⟨res,hres⟩:∃r,r=tl.all qc:=⟨_,rfl⟩
 have HA:Hid (∀j,j < tl.length->qc (tl.getD j qA)=false->res=false):=hid fun j hj e=>by
  rw[hres,List.all_eq_false];exact⟨_,by rw[gD,gE hj]at e;exact gM hj,by rw[gD,gE hj]at e;simp only[Option.getD_some]at e;rw[e];simp⟩
 have HAll:Hid ((∀i,i < tl.length->qc (tl.getD i qA)=true)->res=true):=hid fun h=>by
  rw[hres,aT];intro t ht;obtain⟨i,hi,rfl⟩:=gO ht;have:=h i hi;rw[gD,gE hi]at this;exact this
 rw[<-hres];clear hres hs;obtain⟨n,hn⟩:∃n,n=tl.length:=⟨_,rfl⟩;rw[<-hn]at hl HC HR HA HAll ⊢;clear hn hc;go_enter Tryz.func29,Tryz.ntmps29
 go_wp2_with fail
 go_loopw [7] (fun t wr=>∃(j:Nat),j<=n/\t=.int .i64 j/\Hid ((∀i,i < j->qc (tl.getD i qA)=true)/\Bl w wr)) (fun t _=>n - (intOf t).toNat)
 case atStart=>exact⟨0,nZ _,rfl,hid ⟨fun i hi=>by omega,bI _ _⟩⟩
 case round=>
  obtain⟨j,hjn,rfl,HT⟩:=hrel;by_cases hlt:j < n
  ·have i1:(j:Int) < (n:Int):=by omega
   obtain⟨b,oo,ea,v0,v1,v2,c0,c1,c2,hI⟩:=HC.out wr HT.out.2 j hlt;subst ea;have HTs:=hid (HR.out j hlt);have HAj:=hid (HA.out j hlt);obtain⟨W3,hW3⟩:∃W3,W3=wr.alloc (.cells #[v0,v1,v2] 53):=⟨_,rfl⟩;have hB3:Bl wr W3:=by rw[hW3];exact(bI _ _).alloc (nR _) _
   have HX3:Hid (TX W3 wr.heap.size v0 v1 v2):=hid (by rw[hW3];exact TX.made _ _ _ _);have KT:=hid (kF W3 v0 v1 v2 _ _ _ (hI.below hB3) HTs.out.vs HTs.out.rows);have HB3:=hid (bt HT.out.2 hB3);have HP:=hid HT.out.1;obtain⟨a0,k0,e0,-⟩:=hI.vs;obtain⟨a1,k1,e1,-⟩:=hI.rows;obtain⟨a2,k2,e2,-⟩:=hI.ws;subst e0 e1 e2;have ey:zE (tl.getD j qA).vs (tl.getD j qA).rows (tl.getD j qA).ws=qc (tl.getD j qA):=rfl;rw[ey]at KT
   have HPj:Hid (qc (tl.getD j qA)=true->∀i,i < j+1->qc (tl.getD i qA)=true):=hid fun hy i hi=>by
    by_cases e:i=j
    ·rw[e];exact hy
    ·exact HP.out i (by omega)
   generalize qc (tl.getD j qA)=y at KT HAj HPj;generalize (tl.getD j qA).rows.length=nr at *;generalize (tl.getD j qA).vs.length=n0 at *;generalize (tl.getD j qA).ws.length=n2 at *;clear hB3 hI HT ey HTs;have d0:=HX3.out.c0;have d1:=HX3.out.c1;have d2:=HX3.out.c2;go_upto_region 4 with fail
   rw[<-hW3];clear hW3 c0 c1 c2;cases y
   ·have HNo:=hid (HAj.out rfl);go_wp2_with (first|(go_at_call 51;refine KT.out.mono ?_;rintro e w4 ⟨rfl,hb4⟩)|fail)
    go_ret;exact⟨by rw[HNo.out];rfl,bt HB3.out hb4⟩
   ·go_wp2_with (first|(go_at_call 51;refine KT.out.mono ?_;rintro e w4 ⟨rfl,hb4⟩)|fail)
    have HN:Hid ((∀i,i < j+1->qc (tl.getD i qA)=true)/\Bl w w4):=hid ⟨HPj.out (by trivial),bt HB3.out hb4⟩;clear hb4 KT;go_roundw
    case rel=>exact⟨j+1,by omega,by go_num,HN⟩
    case measure=>simp[intOf];omega
  ·obtain rfl:j=n:=by omega
   have i1:¬((j:Int) < (j:Int)):=by omega
   have HY:=hid (HAll.out HT.out.1);go_wp2_with fail
   go_ret;exact⟨by rw[HY.out];rfl,HT.out.2⟩
open Go.Shelf
def xB(ps:List (List Int)):Nat:=(ps.filter fun q=>decide (0 < q.length)).length
def yA(no:Nat)(ps:List (List Int)):List (List Int):=ps.filter fun q=>decide (q.length=no)
theorem qA1(ps:List (List Int))(p:List Int):xB (ps++[p])=xB ps+(if 0 < p.length then 1 else 0):=by
 unfold xB;rw[List.filter_append,lA];by_cases h:0 < p.length
 ·rw[if_pos h];simp[h]
 ·rw[if_neg h];simp[h]
theorem qA2(no:Nat)(ps:List (List Int))(p:List Int):yA no (ps++[p])=yA no ps++(if p.length=no then [p] else []):=by
 unfold yA;rw[List.filter_append];by_cases h:p.length=no
 ·rw[if_pos h];simp[h]
 ·rw[if_neg h];simp[h]
theorem qB4(no:Nat)(ps:List (List Int)):(yA no ps).length=qb ps no:=rfl
theorem qB5{qs:List (List Int)}(h:ps <+:qs)(i:Nat):qb ps i<=qb qs i:=by
 obtain⟨r,rfl⟩:=h;exact qDC ps r i
theorem jc(hi:i<=o.length):(qw tl o).filter (fun q=>decide (q.length=i))=lvJ tl o i:=by
 unfold qw lvJ;cases xJ tl
 ·have:=Vx (nxJ tl o) o.length [] i hi;rw[List.length_nil,Nat.zero_add]at this;exact this
 ·rfl
theorem Vv:∀q∈qw tl o,q.length<=o.length:=fun q hq=>by
 unfold qw at hq;cases he:xJ tl
 ·rw[he]at hq;have:=(kY (nxJ tl o) o.length [] q hq).2;simpa using this
 ·rw[he]at hq;cases hq
theorem qB6:xB (qw tl o)=viJ tl o o.length:=by
 unfold xB;rw[Zl (qw tl o) o.length Vv];unfold viJ;congr 1;refine List.map_congr_left fun j hj=>?_;have hj':=List.mem_range.1 hj;unfold qb;rw[jc (by omega)]
theorem qDB(h:∀q∈ps,q.length<=k)(hc:∀i,qb ps i<=10000):xB ps<=k*10000:=by
 unfold xB;rw[Zl ps k h]
 have:∀m,((List.range m).map fun j=>qb ps (j+1)).sum<=m*10000:=fun m=>by
  induction m with
  |zero=>simp
  |succ m ih=>
   rw[List.range_succ,mA,List.sum_append];have:=hc (m+1);simp only[List.map_cons,List.map_nil,List.sum_cons,List.sum_nil];omega
 exact this k
theorem qB7(hy:okJ tl o=true)(h:∀i,qb (qw tl o) i<=10000):y5 tl o=yA o.length (qw tl o)/\ya tl o=(xB (qw tl o):Int):=by
 have hs:smJ tl o o.length=true:=by
  unfold smJ;rw[aT];intro i hi;have hi':=List.mem_range.1 hi;have:=h (i+1);unfold qb at this;rw[jc (by omega)]at this;exact decide_eq_true this
 obtain⟨h1,h2⟩:=jf hy;rw[h1,h2,hs];refine⟨?_,by rw[qB6];rfl⟩;show lvJ tl o o.length=(qw tl o).filter _;rw[jc (nR _)]
theorem qB8(hy:okJ tl o=true)(hi:i<=o.length)(h:10000 < qb (qw tl o) i):y5 tl o=[]/\ya tl o=-1:=by
 have hs:smJ tl o o.length=false:=by
  unfold qb at h;rw[jc hi]at h;cases i with
  |zero=>have:=V8 tl o;omega
  |succ i=>exact YF (j:=i) (by omega) (by omega)
 obtain⟨h1,h2⟩:=jf hy;rw[h1,h2,hs];exact⟨rfl,rfl⟩
def QI(c:Nat->Nat):Array Value:=#[.int .i64 (c 0),.int .i64 (c 1),.int .i64 (c 2),.int .i64 (c 3),.int .i64 (c 4),.int .i64 (c 5),.int .i64 (c 6)]
def HX(W:World)(k:Nat)(c:Nat->Nat):Prop:=W.heap[k]?=some (.cells (QI c) 109 (0,0))
theorem qA3(c:Nat->Nat)(h:v < 7):(QI c)[v]?=some (.int .i64 (c v)):=by
 obtain rfl|rfl|rfl|rfl|rfl|rfl|rfl:v=0∨v=1∨v=2∨v=3∨v=4∨v=5∨v=6:=by omega
 all_goals rfl
section
variable {W W':World} {k:Nat} {c:Nat->Nat}
theorem HX.cell(h:HX W k c)(hv:v < 7):W.cell? ⟨k,v,none⟩=some (.int .i64 (c v)):=by rw[cell_of_row _ _ _ _ _ _ h];exact qA3 c hv
theorem HX.free(h:HX W k c)(j:Nat):W.frozen? ⟨k,j,none⟩=false:=by unfold World.frozen?;rw[show W.heap[k]?=_ from h];simp
theorem HX.set(h:HX W k c)(hv:v < 7)(n:Nat):HX (W.setCell ⟨k,v,none⟩ (.int .i64 n)) k (fun i=>if i=v then n else c i):=by
 unfold HX;rw[bG _ _ _ _ _ _ h];obtain rfl|rfl|rfl|rfl|rfl|rfl|rfl:v=0∨v=1∨v=2∨v=3∨v=4∨v=5∨v=6:=by omega
 all_goals simp[QI]
theorem HX.congr{c':Nat->Nat}(h:HX W k c)(he:∀i,i < 7->c' i=c i):HX W k c':=by
 have:QI c'=QI c:=by unfold QI;rw[he 0 (by omega),he 1 (by omega),he 2 (by omega),he 3 (by omega),he 4 (by omega),he 5 (by omega),he 6 (by omega)]
 unfold HX;rw[this];exact h
end
theorem RQ.kt{v:Value}{ls:List (List Int)}(h:RQ X B v us ls)(hk:KT C X Y):RQ Y B v us ls:=
 ⟨qC h.own fun g hg=>by
  obtain⟨cur,hc⟩:=qY h.own hg;exact hk.cel g cur _ _ hc (by decide) (by decide),h.len,fun i hi=>qC (h.each i hi) fun g hg=>by
  obtain⟨cur,hc⟩:=qY (h.each i hi) hg;exact hk.cel g cur _ _ hc (by decide) (by decide),h.ap⟩
theorem TyR.of(hb:Boxed W r 23 vr)(ho:W.ownsRow B 24 1 vr n us):TyR (jx0 h r v) W:=fun k hk=>by
 obtain⟨o,m,c,hc⟩:=hk;have h1:W.cell? ⟨r,0,none⟩=some (.slice (some ⟨k,o,none⟩) m c):=hc;rw[hb.cell]at h1;cases h1
 obtain⟨cur,h2⟩:=qY ho (g:=k) rfl;exact⟨cur,_,h2⟩
theorem RB.iff(hb:Boxed W r 23 vr)(hk:RB (jx0 h r v) W k):vr.ownBlock=some k:=by
 obtain⟨o,m,c,hc⟩:=hk;have h1:W.cell? ⟨r,0,none⟩=some (.slice (some ⟨k,o,none⟩) m c):=hc;rw[hb.cell]at h1;cases h1
 rfl
section
variable {h r v:Nat} {W W' w3:World} {vr:Value} {us:List Value} {B n g c:Nat}
theorem KpS.box{y:Value}(hk:k=h∨k=v)(hr:r≠k)(hty:TyR (jx0 h r v) W->TyR (jx0 h r v) (W.setCell ⟨k,j,none⟩ y)):KpS (jx0 h r v) (fun _=>False) W (W.setCell ⟨k,j,none⟩ y):=by
 have he:(W.setCell ⟨k,j,none⟩ y).heap[(jx0 h r v).r]?=W.heap[(jx0 h r v).r]?:=bD _ _ _ _ hr;refine⟨rfl,rfl,rfl,by simp[World.setCell],fun i o hi _ hm=>(bD _ _ _ _ fun e=>?_).trans hi,fun i hi=>Or.inl ((RB.eq he i).1 hi),hty⟩;have e':i=k:=e;rcases hk with rfl|rfl
 ·exact hm (Or.inl e')
 ·exact hm (Or.inr (Or.inr (Or.inl e')))
theorem KpS.rows{o:Obj}{m:Nat}{ys:List Value}(hg:(W.alloc o).grownBy w3 vr.ownBlock)(hown:w3.ownsRow B 24 1 (.slice (some ⟨g,0,none⟩) m c) m ys)(hat:vr.ownBlock=some g∨W.heap.size<=g)(hgr:g≠r)(hb3:Boxed (w3.setCell ⟨r,0,none⟩ (.slice (some ⟨g,0,none⟩) m c)) r 23 (.slice (some ⟨g,0,none⟩) m c))(hvr:∀q,vr.ownBlock=some q->RB (jx0 h r v) W q):
 KpS (jx0 h r v) (fun _=>False) W (w3.setCell ⟨r,0,none⟩ (.slice (some ⟨g,0,none⟩) m c)):=by
 have hs:=hg.size;rw[World.size_alloc]at hs;refine⟨hg.os,hg.tape,hg.output,?_,fun i ob hi _ hm=>?_,fun i hi=>?_,fun _=>?_⟩
 ·show W.heap.size<=(w3.setCell _ _).heap.size;simp[World.setCell];omega
 ·have hir:i≠r:=fun e=>hm (Or.inr (Or.inl e));have hlt:=qR hi;refine(bD _ _ _ _ (by exact hir)).trans ((hg.block i (by rw[World.size_alloc];omega) fun e=>hm (Or.inr (Or.inr (Or.inr (hvr i e.symm))))).trans ((Below.heap_alloc _ _ _ hlt).trans hi))
 ·have h1:=RB.iff (h:=h) (v:=v) hb3 hi;have h2:g=i:=by simpa[Value.ownBlock]using h1
  subst h2;rcases hat with h3|h3
  ·exact Or.inl (hvr _ h3)
  ·exact Or.inr h3
 ·refine TyR.of hb3 (qC hown fun q hq=>bD _ _ _ _ ?_);have h2:g=q:=by simpa[Value.ownBlock]using hq
  subst h2;exact hgr
theorem KpS.keepsF(hk:KpS (jx0 h r v) (fun _=>False) W W')(ht:TyR (jx0 h r v) W)(hh:h < C)(hr:r < C)(hv:v < C):KeepsFrom C W W':=by
 refine⟨hk.size,fun k o hC h0 ho=>hk.same k o h0 (Or.inr id) fun hm=>?_⟩;rcases hm with e|e|e|e
 ·have:k=h:=e;omega
 ·have:k=r:=e;omega
 ·have:k=v:=e;omega
 ·obtain⟨cur,z,hc⟩:=ht k e;rw[h0]at hc;cases hc
  cases ho
end
theorem yZ{F:Fence}{N:Nat}{P:Program}(w:World){ops:Array Oper}{rest:List Oper}{o:Oper}{a:Act}{Q:Exit->Act->World->Prop}(hgd:o.guard=none)(s x:Operand)(t:TypeId)
 (ho:o.op=.call { callee:=.builtin .append,args:=#[s,x],argTypes:=#[t,t] })
 (base:Nat) (e:TypeId) (i:TypeInfo) (z:Value) (size bytes:Nat) (ht:P.underlying t=some (.slice e)) (hi:P.info? e=some i) (hz:i.zero=some z)
 (hsize:i.size=size) (hby:i.bytes=bytes) (hzs:z.cells.size=size) (hsz:0 < size)
 (v:Value) (n:Nat) (xs:List Value) (hs:a.eval s=v) (hown:w.ownsRow base e size v n xs)
 (ad:Addr) (m c:Nat) (news:List Value) (hx:a.eval x=.slice (some ad) m c) (hl:news.length=m*size) (hnews:∀j u,news[j]?=some u->w.cell? (ad.add j)=some u) (h1:∀u∈news,u.oneCell'=true)
 (hm:0 < m) (h63:n+m<=maxLen) (hbytes:(n+m)*bytes<=140737488355328) (hbase:base<=w.heap.size)
 (h:∀g cap w',w'.ownsRow base e size (.slice (some ⟨g,0,none⟩) (n+m) cap) (n+m) (xs++news)->w.grownBy w' v.ownBlock->(v.ownBlock=some g∨g=w.heap.size)->wpListIn F N P ops Q rest (a.put o.dst (.slice (some ⟨g,0,none⟩) (n+m) cap)) w'):wpListIn F N P ops Q (o::rest) a w:=by
 refine wpListIn_plain hgd fun K hK'=>?_;obtain⟨g,cap,w',hrun,r1,r2,r3,-⟩:=run_append_lies (P:=P) w t o.type base e i z size bytes ht hi hz hsize hby hzs hsz v n xs hown ad m c news hl hnews h1 hm h63 hbytes hbase w.heap.size rfl;unfold Oper.wpIn;refine⟨?_,?_⟩
 ·simp[Oper.about,ho,resolve,Target.leads,Sem.run_pure]
 ·rw[Oper.semAt_plain F _ _ (by rw[ho];intro c hc';cases hc')];simp[execOp,ho,resolve,invoke,builtin,hs,hx,hrun,Result.andThen];exact hK' _ _ (h g cap w' r1 r2 r3)
theorem xV{k':Nat}{cs cs':Array Value}{t t':TypeId}{z z':Nat×Nat}(h:W.heap[k]?=some (.cells cs t z))(h':W.heap[k']?=some (.cells cs' t' z'))(ht:t≠t'):k≠k':=fun e=>by
 subst e;rw[h]at h';cases h'
 exact ht rfl
structure JS(B bo r v h:Nat)(vo:Value)(c:Nat->Nat)(vn:Int)(ls:List (List Int))(vr:Value)(us:List Value)(w W:World):Prop where
 hb:HX W h c
 rb:Boxed W r 23 vr
 rq:RQ W (bo+1) vr us ls
 vb:Boxed W v 3 (.int .i64 vn)
 ob:Boxed W bo 24 vo
 bel:Below B w W
 sh:∃g k,vr=.slice (some ⟨g,0,none⟩) ls.length k
 ap:∀i,i < ls.length->∀g,(us.getD i undef).ownBlock=some g->g≠v
 low:B<=bo/\B<=r/\B<=v/\B<=h
section
variable {B bo r v h:Nat} {vo vr:Value} {c:Nat->Nat} {vn:Int} {ls:List (List Int)} {us:List Value} {w W Y:World}
theorem JS.kt(j:JS B bo r v h vo c vn ls vr us w W)(hk:KT C W Y)(hC:B<=C):JS B bo r v h vo c vn ls vr us w Y:=
 ⟨(hk.cel _ _ _ _ j.hb (by decide) (by decide)).trans j.hb,(hk.cel _ _ _ _ j.rb (by decide) (by decide)).trans j.rb,j.rq.kt hk,(hk.cel _ _ _ _ j.vb (by decide) (by decide)).trans j.vb,(hk.cel _ _ _ _ j.ob (by decide) (by decide)).trans j.ob,j.bel.trans (hk.bel.mono hC),j.sh,j.ap,j.low⟩
theorem JS.ty(j:JS B bo r v h vo c vn ls vr us w W):TyR (jx0 h r v) W:=TyR.of j.rb j.rq.own
theorem JS.own_ne(j:JS B bo r v h vo c vn ls vr us w W){cs:Array Value}{t:TypeId}(hk:W.heap[k]?=some (.cells cs t (0,0)))(ht:24≠t):vr.ownBlock≠some k:=fun e=>Go.Proofs.YtjbpgdpciinlcaaGreat.own_ne j.rq.own ⟨_,hk⟩ ht e.symm
theorem JS.held(j:JS B bo r v h vo c vn ls vr us w W)(hi:i < 7)(n:Nat):JS B bo r v h vo (fun q=>if q=i then n else c q) vn ls vr us w (W.setCell ⟨h,i,none⟩ (.int .i64 n))/\KpS (jx0 h r v) (fun _=>False) W (W.setCell ⟨h,i,none⟩ (.int .i64 n)):=by
 have e1:r≠h:=xV j.rb j.hb (by decide);have e2:v≠h:=xV j.vb j.hb (by decide);have e3:bo≠h:=xV j.ob j.hb (by decide);have k:∀q,q≠h->(W.setCell ⟨h,i,none⟩ (.int .i64 n)).heap[q]?=W.heap[q]?:=fun q hq=>bD _ _ _ _ hq;have hrb:Boxed (W.setCell ⟨h,i,none⟩ (.int .i64 n)) r 23 vr:=(k _ e1).trans j.rb;have hrq:RQ (W.setCell ⟨h,i,none⟩ (.int .i64 n)) (bo+1) vr us ls:=⟨qC j.rq.own fun g hg=>k g fun e=>j.own_ne j.hb (by decide) (by rw[hg,e]),j.rq.len,fun q hq=>qC (j.rq.each q hq) fun g hg=>k g fun e=>Go.Proofs.YtjbpgdpciinlcaaGreat.own_ne (j.rq.each q hq) ⟨_,j.hb⟩ (by decide) (by rw[hg,e]),j.rq.ap⟩;refine⟨⟨j.hb.set hi n,hrb,hrq,(k _ e2).trans j.vb,(k _ e3).trans j.ob,j.bel.setCell (by exact j.low.2.2.2) _,j.sh,j.ap,j.low⟩,KpS.box (Or.inl rfl) e1 fun _=>TyR.of hrb hrq.own⟩
theorem JS.vis(j:JS B bo r v h vo c vn ls vr us w W)(n:Int):JS B bo r v h vo c n ls vr us w (W.setCell ⟨v,0,none⟩ (.int .i64 n))/\KpS (jx0 h r v) (fun _=>False) W (W.setCell ⟨v,0,none⟩ (.int .i64 n)):=by
 have e1:r≠v:=xV j.rb j.vb (by decide);have e2:h≠v:=xV j.hb j.vb (by decide);have e3:bo≠v:=xV j.ob j.vb (by decide);have k:∀q,q≠v->(W.setCell ⟨v,0,none⟩ (.int .i64 n)).heap[q]?=W.heap[q]?:=fun q hq=>bD _ _ _ _ hq;have hrb:Boxed (W.setCell ⟨v,0,none⟩ (.int .i64 n)) r 23 vr:=(k _ e1).trans j.rb;have hrq:RQ (W.setCell ⟨v,0,none⟩ (.int .i64 n)) (bo+1) vr us ls:=⟨qC j.rq.own fun g hg=>k g fun e=>j.own_ne j.vb (by decide) (by rw[hg,e]),j.rq.len,fun q hq=>qC (j.rq.each q hq) fun g hg=>k g (j.ap q hq g hg),j.rq.ap⟩;refine⟨⟨(k _ e2).trans j.hb,hrb,hrq,j.vb.set _,(k _ e3).trans j.ob,j.bel.setCell (by exact j.low.2.2.1) _,j.sh,j.ap,j.low⟩,KpS.box (Or.inr rfl) e1 fun _=>TyR.of hrb hrq.own⟩
theorem JS.push(j:JS B bo r v h vo c vn ls vr us w W){o:Obj}{cp:Nat}{u:Value}{l:List Int}(hu:W.ownsRow (bo+1) 3 1 u l.length (l.map (Value.int .i64)))(hn:∀i,i < ls.length->∀g,(us.getD i undef).ownBlock=some g->u.ownBlock≠some g)(hv:u.ownBlock≠some v)
 (hown:w3.ownsRow (bo+1) 24 1 (.slice (some ⟨g,0,none⟩) (ls.length+1) cp) (ls.length+1) (us++[u])) (hg:(W.alloc o).grownBy w3 vr.ownBlock) (hat:vr.ownBlock=some g∨g=(W.alloc o).heap.size):
 Boxed w3 r 23 vr/\JS B bo r v h vo c vn (ls++[l]) (.slice (some ⟨g,0,none⟩) (ls.length+1) cp) (us++[u]) w (w3.setCell ⟨r,0,none⟩ (.slice (some ⟨g,0,none⟩) (ls.length+1) cp))/\KpS (jx0 h r v) (fun _=>False) W (w3.setCell ⟨r,0,none⟩ (.slice (some ⟨g,0,none⟩) (ls.length+1) cp)):=by
 have hq:=j.rq.step hu hn hown hg;have kk:∀q,q < W.heap.size->vr.ownBlock≠some q->w3.heap[q]?=W.heap[q]?:=fun q hq1 hq2=>zi hg hq1 fun e=>hq2 e.symm;have r3:Boxed w3 r 23 vr:=(kk _ j.rb.lt (j.own_ne j.rb (by decide))).trans j.rb;have e1:h≠r:=xV j.hb j.rb (by decide);have e2:v≠r:=xV j.vb j.rb (by decide);have e3:bo≠r:=xV j.ob j.rb (by decide);have k:∀q,q≠r->(w3.setCell ⟨r,0,none⟩ (.slice (some ⟨g,0,none⟩) (ls.length+1) cp)).heap[q]?=w3.heap[q]?:=fun q hq=>bD _ _ _ _ hq;have hbo:vr.ownBlock≠some bo:=fun e=>by have:=(j.rq.own.lt bo e).1;omega
 have hgr:g≠r:=fun e=>Go.Proofs.YtjbpgdpciinlcaaGreat.own_ne hown ⟨_,r3⟩ (by decide) (by rw[e];rfl);have hrb:=r3.set (.slice (some ⟨g,0,none⟩) (ls.length+1) cp)
 have hvr:∀q,vr.ownBlock=some q->RB (jx0 h r v) W q:=fun q hq=>by
  obtain⟨g0,k0,e⟩:=j.sh;rw[e]at hq;have:g0=q:=by simpa[Value.ownBlock]using hq
  subst this;exact⟨0,ls.length,k0,by show W.cell? ⟨r,0,none⟩=_;rw[j.rb.cell,e]⟩
 refine⟨r3,⟨?_,hrb,⟨qC hq.own fun q hq2=>k q fun e=>?_,hq.len,fun i hi=>qC (hq.each i hi) fun q hq2=>k q fun e=>Go.Proofs.YtjbpgdpciinlcaaGreat.own_ne (hq.each i hi) ⟨_,r3⟩ (by decide) (by rw[hq2,e]),hq.ap⟩,?_,?_,?_,⟨g,cp,by rw[lA];rfl⟩,fun i hi q hq2=>?_,j.low⟩,?_⟩
 ·exact(k _ e1).trans ((kk _ (qR j.hb) (j.own_ne j.hb (by decide))).trans j.hb)
 ·have:g=q:=by simpa[Value.ownBlock]using hq2
  exact hgr (this.trans e)
 ·exact(k _ e2).trans ((kk _ j.vb.lt (j.own_ne j.vb (by decide))).trans j.vb)
 ·exact(k _ e3).trans ((kk _ j.ob.lt hbo).trans j.ob)
 ·have hBW:B<=W.heap.size:=by have:=j.low.1;have:=j.ob.lt;omega
  refine((j.bel.alloc hBW o).grown hg (by rw[World.size_alloc];omega) fun q hq2=>?_).setCell (by exact j.low.2.1) _;have h1:=(j.rq.own.lt q hq2).1;have h2:=j.low.1;omega
 ·rw[lA,lS]at hi;by_cases hi2:i < ls.length
  ·rw[gD,aL (by rw[j.rq.len];exact hi2),<-gD]at hq2;exact j.ap i hi2 q hq2
  ·have hi3:i=us.length:=by rw[j.rq.len];omega
   rw[hi3,gD,bN (nR _),Nat.sub_self]at hq2;intro e;exact hv (by rw[<-e];exact hq2)
 ·refine KpS.rows hg hown ?_ hgr hrb hvr;rcases hat with h1|h1
  ·exact Or.inl h1
  ·exact Or.inr (by rw[h1,World.size_alloc];omega)
theorem JS.reset(j:JS B bo r v h vo c vn ls vr us w W):JS B bo r v h vo c vn [] (.slice (some ⟨W.heap.size,0,none⟩) 0 0) [] w ((W.alloc (.cells #[] 24)).setCell ⟨r,0,none⟩ (.slice (some ⟨W.heap.size,0,none⟩) 0 0))/\KpS (jx0 h r v) (fun _=>False) W ((W.alloc (.cells #[] 24)).setCell ⟨r,0,none⟩ (.slice (some ⟨W.heap.size,0,none⟩) 0 0)):=by
 have hown:(W.alloc (.cells #[] 24)).ownsRow (bo+1) 24 1 (.slice (some ⟨W.heap.size,0,none⟩) 0 0) 0 []:=oM W (e:=24) (size:=1) (base:=bo+1) #[] 0 (by have:=j.ob.lt;omega) (by decide) rfl;have r3:Boxed (W.alloc (.cells #[] 24)) r 23 vr:=j.rb.alloc _;have e1:h≠r:=xV j.hb j.rb (by decide);have e2:v≠r:=xV j.vb j.rb (by decide);have e3:bo≠r:=xV j.ob j.rb (by decide);have k:∀q,q≠r->((W.alloc (.cells #[] 24)).setCell ⟨r,0,none⟩ (.slice (some ⟨W.heap.size,0,none⟩) 0 0)).heap[q]?=(W.alloc (.cells #[] 24)).heap[q]?:=fun q hq=>bD _ _ _ _ hq;have hBW:B<=W.heap.size:=by have:=j.low.1;have:=j.ob.lt;omega
 have hgr:W.heap.size≠r:=by have:=j.rb.lt;omega
 have hrb:=r3.set (.slice (some ⟨W.heap.size,0,none⟩) 0 0)
 have hvr:∀q,vr.ownBlock=some q->RB (jx0 h r v) W q:=fun q hq=>by
  obtain⟨g0,k0,e⟩:=j.sh;rw[e]at hq;have:g0=q:=by simpa[Value.ownBlock]using hq
  subst this;exact⟨0,ls.length,k0,by show W.cell? ⟨r,0,none⟩=_;rw[j.rb.cell,e]⟩
 have ka:∀q o,W.heap[q]?=some o->(W.alloc (.cells #[] 24)).heap[q]?=some o:=fun q o hq=>(Below.heap_alloc _ _ _ (qR hq)).trans hq;refine⟨⟨(k _ e1).trans (ka _ _ j.hb),hrb,⟨qC hown fun q hq=>k q fun e=>?_,rfl,fun i hi=>by simp at hi,fun i q _ hq=>by simp at hq⟩,(k _ e2).trans (ka _ _ j.vb),(k _ e3).trans (ka _ _ j.ob),(j.bel.alloc hBW _).setCell (by exact j.low.2.1) _,⟨_,_,rfl⟩,fun i hi=>by simp at hi,j.low⟩,KpS.rows (World.grownBy.refl _ vr.ownBlock) hown (Or.inr (nR _)) hgr hrb hvr⟩;have:W.heap.size=q:=by simpa[Value.ownBlock]using hq
 exact hgr (this.trans e)
end
attribute [local go_sem] Oper.semAt_some
theorem Kv(w:World)(vt vo:Value)(tl:List TbV)(o:List Int)(h:ITs w vt tl)(ho:IS w vo o)(hl:tl.length<=1048576)(hol:o.length<=1048576)(hs:∀t∈tl,TvS t):
 Cl 61 #[vt,vo] w fun e w'=>∃v us,e=.returned (.tuple #[v,.int .i64 (ya tl o)])/\RQ w' w.heap.size v us (y5 tl o)/\Bl w w':=by
 have HT:=hid h;have HO:=hid ho;have KA:Hid (∀W,Bl w W->Cl 29 #[vt] W fun e w'=>e=.returned (.bool (tl.all qc))/\Bl W w'):=hid fun W hW=>uf W vt tl (h.below hW) (by omega) hs;have KO:Hid (∀W,Bl w W->tl.length<=8->tl.all qc=true->Cl 86 #[vt,vo] W fun e w'=>e=.returned (.bool (vY tl o))/\Bl W w'):=hid fun W hW h8 ha=>Zo W vt vo tl o (h.below hW) (ho.below hW) (by omega) hol (fun t ht=>aT.1 ha t ht);have HOK:Hid (okJ tl o=(decide (tl.length<=8)&&tl.all qc&&vY tl o)):=hid rfl;obtain⟨at',ct,evt,-⟩:=h;obtain⟨ao,co,evo,-⟩:=ho;subst evt evo;have HRN:Hid (okJ tl o=false->y5 tl o=[]/\ya tl o=-1):=hid qDH;obtain⟨RJ,hRJ⟩:∃RJ,RJ=y5 tl o:=⟨_,rfl⟩;obtain⟨VJ,hVJ⟩:∃VJ,VJ=ya tl o:=⟨_,rfl⟩;have HRJ:=hid hRJ;have HVJ:=hid hVJ;rw[<-hRJ,<-hVJ]at HRN ⊢;clear hRJ hVJ hs;obtain⟨n,hn⟩:∃n,n=tl.length:=⟨_,rfl⟩;rw[<-hn]at hl KA KO HOK ⊢;have HNT:=hid hn;clear hn;obtain⟨no,hno⟩:∃no,no=o.length:=⟨_,rfl⟩;rw[<-hno]at hol KO ⊢;have HNO:=hid hno;clear hno;rw[<-HNT.out]at HT;obtain⟨W1,hW1⟩:∃W1,W1=(((w.alloc (.cells #[.slice ao no co] 24)).alloc (.cells #[] 24)).alloc (.cells #[.slice (some ⟨w.heap.size+1,0,none⟩) 0 0] 23)).alloc (.cells #[.int .i64 0] 3):=⟨_,rfl⟩;have hB1:Bl w W1:=by rw[hW1];exact qE (qE (qE (qE (bI _ _) _) _) _) _
 have hS1:Hid (W1.heap.size=w.heap.size+4):=hid (by rw[hW1];simp);have a1:∀(W:World) (o:Obj) (k:Nat),k=W.heap.size->(W.alloc o).heap[k]?=some o:=fun W o k hk=>by rw[hk];exact World.alloc_heap_new W o
 have a2:∀(W:World) (o o':Obj) (k:Nat),W.heap[k]?=some o->(W.alloc o').heap[k]?=some o:=fun W o o' k hk=>(Below.heap_alloc _ _ _ (qR hk)).trans hk;have HBo:Hid (Boxed W1 w.heap.size 24 (.slice ao no co)):=hid (by rw[hW1];exact a2 _ _ _ _ (a2 _ _ _ _ (a2 _ _ _ _ (a1 _ _ _ rfl))));have HBr:Hid (Boxed W1 (w.heap.size+2) 23 (.slice (some ⟨w.heap.size+1,0,none⟩) 0 0)):=hid (by rw[hW1];exact a2 _ _ _ _ (a1 _ _ _ (by simp)));have HBv:Hid (Boxed W1 (w.heap.size+3) 3 (.int .i64 0)):=hid (by rw[hW1];exact a1 _ _ _ (by simp))
 have HRQ:Hid (RQ W1 w.heap.size (.slice (some ⟨w.heap.size+1,0,none⟩) 0 0) [] []):=hid (by
  refine⟨?_,rfl,fun i hi=>by simp at hi,fun i j _ hj=>by simp at hj⟩;have h1:=oM (w.alloc (.cells #[.slice ao no co] 24)) (e:=24) (size:=1) (base:=w.heap.size) #[] 0 (by simp) (by decide) rfl;rw[World.size_alloc]at h1;rw[hW1];exact qB h1 (qE (qE (bI _ _) _) _))
 clear a1 a2;refine(callsIn_wide (n:=0)).1 (callsIn_of_wp_marks Tryz.func61 rfl trivial ?_ rfl);simp only[Tryz.ntmps61,List.size_toArray,List.length_cons,List.length_nil,Nat.reduceAdd,Nat.reduceSub,Array.replicate_succ,Array.replicate_zero,List.push_toArray,List.append_toArray,List.nil_append,List.cons_append];refine wpIn_mono (Q:=npQ (bodyPostM Fence.wide 0 Tryz.prog Tryz.f61 (fun e w'=>∃v us,e=.returned (.tuple #[v,.int .i64 VJ])/\RQ w' w.heap.size v us RJ/\Bl w w'))) ?_ npQ.imp;refine(wpIn_wide (n:=0)).2 ?_;go_upto_region 2 with fail
 rw[<-hW1];clear hW1;have HSS:Hid (∀W,Bl W1 W->W.cell? ⟨w.heap.size,0,none⟩=some (.slice ao no co)/\W.cell? ⟨w.heap.size+1+1,0,none⟩=some (.slice (some ⟨w.heap.size+1,0,none⟩) 0 0)):=hid fun W hW=>⟨Boxed.cell (t:=24) ((hW.block _ HBo.out.lt).trans HBo.out),Boxed.cell (t:=23) ((hW.block _ HBr.out.lt).trans HBr.out)⟩
 have HEN:Hid (∀W,Bl W1 W->okJ tl o=false->∃v us,Ending.returned (.tuple #[.slice (some ⟨w.heap.size+1,0,none⟩) 0 0,.int .i64 (-1)])=.returned (.tuple #[v,.int .i64 VJ])/\RQ W w.heap.size v us RJ/\Bl w W):=hid fun W hW hy=>by
  obtain⟨e1,e2⟩:=HRN.out hy;rw[e1,e2];exact⟨_,[],rfl,HRQ.out.below hW,bt hB1 hW⟩
 have KA1:=hid (KA.out W1 hB1);by_cases h8:n<=8
 ·have q8:¬((8:Int) < (n:Int)):=by omega
  rw[decide_eq_true h8,Bool.true_and]at HOK;have KO1:Hid (tl.all qc=true->∀W,Bl W1 W->Cl 86 #[.slice at' n ct,.slice ao no co] W fun e w'=>e=.returned (.bool (vY tl o))/\Bl W w'):=hid fun h1 W hW=>KO.out W (bt hB1 hW) h8 h1;cases hA:tl.all qc with
  |false=>
   rw[hA]at KA1 HOK;have HK0:Hid (okJ tl o=false):=hid HOK.out;clear HOK KO KO1 KA hA;go_wp2_with (first|(go_at_call 29;refine KA1.out.mono ?_;rintro e w2 ⟨rfl,hb2⟩;obtain⟨k1,k2⟩:=HSS.out w2 hb2)|fail)
   exact⟨_,by simp[results,Tryz.results61,go_sem],HEN.out _ hb2 HK0.out⟩
  |true=>
   rw[hA]at KA1 HOK;rw[Bool.true_and]at HOK;have KO2:=hid (KO1.out hA);have HAll:=hid hA;cases hO:vY tl o with
   |false=>
    rw[hO]at KO2 HOK;clear KO KO1 KA hA hO HAll;go_wp2_with (first|(go_at_call 29;refine KA1.out.mono ?_;rintro e w2 ⟨rfl,hb2⟩;obtain⟨k1,k2⟩:=HSS.out w2 hb2)|(go_at_call 86;refine(KO2.out w2 hb2).mono ?_;rintro e w3 ⟨rfl,hb3'⟩;have hb3:=bt hb2 hb3';obtain⟨r1,r2⟩:=HSS.out w3 hb3)|fail)
    exact⟨_,by simp[results,Tryz.results61,go_sem],HEN.out _ hb3 HOK.out⟩
   |true=>
    rw[hO]at KO2 HOK;clear KO KO1 KA hA HRN HEN;go_upto_region 4 with (first|(go_at_call 29;refine KA1.out.mono ?_;rintro e w2 ⟨rfl,hb2⟩;obtain⟨k1,k2⟩:=HSS.out w2 hb2)|(go_at_call 86;refine(KO2.out w2 hb2).mono ?_;rintro e w3 ⟨rfl,hb3'⟩;have hb3:=bt hb2 hb3';obtain⟨r1,r2⟩:=HSS.out w3 hb3)|fail)
    obtain⟨W4,hW4⟩:∃W4,W4=w3.alloc (.cells #[.int .i64 0,.int .i64 0,.int .i64 0,.int .i64 0,.int .i64 0,.int .i64 0,.int .i64 0] 109):=⟨_,rfl⟩;have hB4:Bl w3 W4:=by rw[hW4];exact qE (bI _ _) _
    have hH4:W4.heap[w3.heap.size]?=some (.cells #[.int .i64 0,.int .i64 0,.int .i64 0,.int .i64 0,.int .i64 0,.int .i64 0,.int .i64 0] 109 (0,0)):=by rw[hW4];exact World.alloc_heap_new w3 _
    have hb4:=bt hb3 hB4;obtain⟨q1,q2⟩:=HSS.out W4 hb4;obtain⟨Wp,hWp⟩:∃Wp,Wp=(W4.alloc (.cells #[.slice at' n ct] 32)).alloc (.cells #[.slice ao no co] 24):=⟨_,rfl⟩;go_upto_region 5 with fail
    rw[<-hW4];clear hW4;go_wp2_with (first|(go_at_call 87;refine(XS _ _ _ _ _ _ _).mono ?_;rintro e w5 ⟨rfl,rfl⟩)|fail)
    rw[<-hWp];have hn3:W1.heap.size<=w3.heap.size:=hb3.size;have hW1s:=hS1.out;have hBp:Bl W4 Wp:=by rw[hWp];exact qE (qE (bI _ _) _) _
    have hbp:=bt hb4 hBp;have hT5:Wp.heap[W4.heap.size]?=some (.cells #[.slice at' n ct] 32 (0,0)):=by rw[hWp];exact(Below.heap_alloc _ _ _ (by simp)).trans (World.alloc_heap_new W4 _)
    have hO5:Wp.heap[W4.heap.size+1]?=some (.cells #[.slice ao no co] 24 (0,0)):=by
     rw[hWp];have:=World.alloc_heap_new (W4.alloc (.cells #[.slice at' n ct] 32)) (.cells #[.slice ao no co] 24);rw[World.size_alloc]at this;exact this
    have hJ0:JS w.heap.size w.heap.size (w.heap.size+1+1) (w.heap.size+1+1+1) w3.heap.size (.slice ao no co) (qb []) ((xB []:Nat):Int) (yA no []) (.slice (some ⟨w.heap.size+1,0,none⟩) 0 0) [] w Wp:=by
     refine⟨(hBp.block _ (qR hH4)).trans hH4,(hbp.block _ HBr.out.lt).trans HBr.out,?_,(hbp.block _ HBv.out.lt).trans HBv.out,(hbp.block _ HBo.out.lt).trans HBo.out,bt hB1 hbp,⟨_,_,rfl⟩,fun i hi=>by simp[yA]at hi,by omega⟩;have h1:=HRQ.out.below hbp;refine⟨?_,rfl,fun i hi=>by simp[yA]at hi,fun i j _ hj=>by simp[yA]at hj⟩;exact⟨h1.own.1,h1.own.2.imp id fun ⟨g,cap,cur,e1,e2,e3⟩=>⟨g,cap,cur,e1,by cases e1;omega,e3⟩⟩
    have hspl:w.heap.size+4<=Wp.heap.size:=by have:=hbp.size;omega
    have hh3:w3.heap.size < Wp.heap.size:=by have h1:=qR hH4;have h2:=hBp.size;omega
    have hcov:Qy tl o:=UB hO;have ho6:no<=6:=by have h1:=(yT.1 hO).length_eq;have h2:=QJ tl;have h3:=HNO.out;omega
    have hgv:Gives Tryz.prog 106 #[.pointer (some ⟨W4.heap.size,0,none⟩),.pointer (some ⟨W4.heap.size+1,0,none⟩)] (fun vp=>#[vp]) (fun l=>KpS (jx0 w3.heap.size (w.heap.size+1+1) (w.heap.size+1+1+1)) fun k=>k=l) (fun l=>KpS (jx0 w3.heap.size (w.heap.size+1+1) (w.heap.size+1+1+1)) fun k=>k=l) (qBy no (qw tl o)) (qw tl o) Wp:=by
     rw[HNO.out];refine Zk _ _ _ Wp _ _ (.slice at' n ct) (.slice ao o.length co) tl o hT5 (by rw[<-HNO.out];exact hO5) (HT.out.below (bt hB1 hbp)) (HO.out.below (bt hB1 hbp)) (fun t ht=>aT.1 HAll.out t ht) hcov (by rw[<-HNT.out];omega) (by rw[<-HNO.out];omega) hh3 (by omega) (by omega) hJ0.ty
    have HFy:Hid ((∀i,qb (qw tl o) i<=10000)->RJ=yA no (qw tl o)/\VJ=(xB (qw tl o):Int)):=hid fun h1=>by rw[HRJ.out,HVJ.out,HNO.out];exact qB7 HOK.out h1
    have HFn:Hid (∀i,i<=no->10000 < qb (qw tl o) i->RJ=[]/\VJ=-1):=hid fun i h1 h2=>by rw[HRJ.out,HVJ.out];exact qB8 HOK.out (by rw[<-HNO.out];exact h1) h2
    have HTL:Hid (∀q∈qw tl o,q.length<=no):=hid fun q hq=>by rw[HNO.out];exact Vv q hq
    generalize qw tl o=tot at *;clear hT5 hO5 hcov hWp hH4 HT HO HRJ HVJ HOK HAll KA1 KO2 HSS HRQ hb2 hb3 hb3' hB4 q1 q2 r1 r2 k1 k2 hO HBo HBr HBv hbp hBp;obtain⟨II,hII⟩:∃II:List (List Int)->World->Prop,II=fun ps W=>∃vr us,JS w.heap.size w.heap.size (w.heap.size+1+1) (w.heap.size+1+1+1) w3.heap.size (.slice ao no co) (qb ps) ((xB ps:Nat):Int) (yA no ps) vr us w W/\∀i,qb ps i<=10000:=⟨_,rfl⟩;obtain⟨IX,hIX⟩:∃IX:Code->World->Prop,IX=fun c W=>c=.exit 0/\(∃i,i<=no/\10000 < qb tot i)/\∃vr cc,JS w.heap.size w.heap.size (w.heap.size+1+1) (w.heap.size+1+1+1) w3.heap.size (.slice ao no co) cc (-1) [] vr [] w W:=⟨_,rfl⟩;have hBwp:w.heap.size<=Wp.heap.size:=by omega
    refine(wpIn_wide (n:=0)).1 ?_
    refine ke (α:=List Int) (β:=Value) (gf:=106) (lb:=#[.pointer (some ⟨W4.heap.size,0,none⟩),.pointer (some ⟨W4.heap.size+1,0,none⟩)]) rfl (enters_of Tryz.func106 (by kernel_rfl) rfl) hgv (fun _=>rfl)
     (fun h1 h2=>KpS.trans h1 h2) (fun l W o o' h1 h2 h3=>KpS.put rfl h2 h3 (by show w.heap.size+1+1≠l;omega)) (fun h1 h2 h3=>(KpS.trans h1 h2).trans h3)
     II IX
     (fun s X Y hX hk=>by rw[hII]at hX ⊢;obtain⟨vr,us,h1,h2⟩:=hX;exact⟨vr,us,h1.kt hk hBwp,h2⟩)
     (fun c X Y hX hk=>by rw[hIX]at hX ⊢;obtain⟨h0,h1,vr,cc,h2⟩:=hX;exact⟨h0,h1,vr,cc,h2.kt hk hBwp⟩)
     (by rw[hII];exact⟨_,_,hJ0,fun i=>by show(0:Nat)<=_;omega⟩)
     (fun l pre x b a' W=>∃X vr us,JS w.heap.size w.heap.size (w.heap.size+1+1) (w.heap.size+1+1+1) w3.heap.size (.slice ao no co) (qb pre) ((xB pre:Nat):Int) (yA no pre) vr us w X/\(∀i,qb pre i<=10000)/\KT Wp.heap.size X W/\W.ownsRow X.heap.size 3 1 b x.length (x.map (Value.int .i64))/\x.length<=no/\(∃g c,b=.slice (some ⟨g,0,none⟩) x.length c)/\pre++[x] <+:tot/\a'={ tmps:=#[.slice at' n ct,.slice ao no co,undef,.pointer (some ⟨w.heap.size,0,none⟩),.slice none 0 0,.int .i64 0,.pointer (some ⟨w.heap.size+1+1,0,none⟩),.pointer (some ⟨w.heap.size+1+1+1,0,none⟩),.pointer (some ⟨w3.heap.size,0,none⟩),b,undef,.slice (some ⟨w.heap.size+1,0,none⟩) 0 0,.slice at' n ct,.int .i64 n,.bool false,.bool false,.slice at' n ct,.bool true,.bool false,.bool false,.bool false,.slice at' n ct,.slice ao no co,.bool true,.bool false,.bool false,undef,.slice at' n ct,.slice ao no co,.func (.func 106) #[] #[.pointer (some ⟨W4.heap.size,0,none⟩),.pointer (some ⟨W4.heap.size+1,0,none⟩)],b,undef,undef,undef,undef,undef,undef,undef,undef,undef,undef,undef,undef,undef,undef,undef,undef,undef,undef,undef,undef,undef,undef,undef,undef,undef,undef],defers:=[] })
     (fun l pre x b a' W o o' ⟨X,vr,us,h1,h2,h3,h4,h5⟩ hl2 h6 h7=>⟨X,vr,us,h1,h2,h3.trans (KT.put (B:=Wp.heap.size) o' hl2 h6 h7),qC h4 fun g hg=>by
      obtain⟨cur,hc⟩:=qY h4 hg;exact(KT.put (B:=Wp.heap.size) o' hl2 h6 h7).cel g cur _ _ hc (by decide) (by decide),h5⟩)
     ?assign ?body ?done ?stop
    case assign=>
     rintro l pre x b X Y K hl2 hI hk ⟨ho,hxl,⟨g,c,rfl⟩,hpre⟩ ⟨rr,hrr⟩ hK;rw[hII]at hI;obtain⟨vr,us,h1,h2⟩:=hI;gi_wp2
     exact hK _ _ (KeepsFrom.refl _ _) (KpS.refl _ _ _) ⟨X,vr,us,h1,h2,hk,ho,hxl,⟨g,c,rfl⟩,hpre,rfl⟩
    case body=>
     rintro l pre x b a' W hl2 ⟨rr,hrr⟩ ⟨X,vr,us,jX,hcn,hk,hob,hxl,⟨g,c,rfl⟩,hpre,rfl⟩;have jW:=jX.kt hk hBwp;have hx7:x.length < 7:=by omega
     have hgX:X.heap.size<=g:=(hob.lt g rfl).1;have hvX:=jX.vb.lt;have hgv2:g≠w.heap.size+1+1+1:=by omega
     obtain⟨iS,hj,hy0,hy1,hy2⟩:=info_parts Tryz.infoIS;have hoX:=jX.ob.lt;have hHeld:=jW.held hx7 (qb pre x.length+1);rw[show((qb pre x.length+1:Nat):Int)=(qb pre x.length:Int)+1 by omega]at hHeld;obtain⟨ja',ka⟩:=hHeld;have hcx:=hcn x.length
     have ja:JS w.heap.size w.heap.size (w.heap.size+1+1) (w.heap.size+1+1+1) w3.heap.size (.slice ao no co) (qb (pre++[x])) ((xB pre:Nat):Int) (yA no pre) vr us w (W.setCell ⟨w3.heap.size,x.length,none⟩ (.int .i64 ((qb pre x.length:Int)+1))):=⟨ja'.hb.congr fun i _=>by
      rw[kZ];by_cases e:i=x.length
      ·rw[if_pos e.symm,if_pos e,e]
      ·rw[if_neg (fun h=>e h.symm),if_neg e];rfl,ja'.rb,ja'.rq,ja'.vb,ja'.ob,ja'.bel,ja'.sh,ja'.ap,ja'.low⟩
     have hobW:W.ownsRow (w.heap.size+1) 3 1 (.slice (some ⟨g,0,none⟩) x.length c) x.length (x.map (Value.int .i64)):=qF hob (by omega);have hgne:g≠w3.heap.size:=fun e=>own_ne hob ⟨_,jW.hb⟩ (by decide) (by rw[e];rfl)
     have HFin:Hid (∀W' vr' us',qb pre x.length+1<=10000->JS w.heap.size w.heap.size (w.heap.size+1+1) (w.heap.size+1+1+1) w3.heap.size (.slice ao no co) (qb (pre++[x])) ((xB (pre++[x]):Nat):Int) (yA no (pre++[x])) vr' us' w W'->KpS (jx0 w3.heap.size (w.heap.size+1+1) (w.heap.size+1+1+1)) (fun _=>False) W W'->KeepsFrom Wp.heap.size W W'/\KpS (jx0 w3.heap.size (w.heap.size+1+1) (w.heap.size+1+1+1)) (fun k=>k=l) W W'/\II (pre++[x]) W'):=hid fun W' vr' us' h1 h2 h3=>by
      refine⟨h3.keepsF jW.ty hh3 (by omega) (by omega),h3.sub fun _ h=>h.elim,?_⟩;rw[hII];refine⟨vr',us',h2,fun i=>?_⟩;rw[kZ];by_cases e:x.length=i
      ·rw[if_pos e,<-e];exact h1
      ·rw[if_neg e];exact hcn i
     have HFinX:Hid (∀W' vr' cc,10000 < qb pre x.length+1->JS w.heap.size w.heap.size (w.heap.size+1+1) (w.heap.size+1+1+1) w3.heap.size (.slice ao no co) cc (-1) [] vr' [] w W'->KpS (jx0 w3.heap.size (w.heap.size+1+1) (w.heap.size+1+1+1)) (fun _=>False) W W'->KeepsFrom Wp.heap.size W W'/\KpS (jx0 w3.heap.size (w.heap.size+1+1) (w.heap.size+1+1+1)) (fun k=>k=l) W W'/\IX (.exit 0) W'):=hid fun W' vr' cc h1 h2 h3=>by
      refine⟨h3.keepsF jW.ty hh3 (by omega) (by omega),h3.sub fun _ h=>h.elim,?_⟩;rw[hIX];refine⟨rfl,⟨x.length,hxl,?_⟩,vr',cc,h2⟩;have h4:=qB5 hpre x.length;rw[kZ,if_pos rfl]at h4;omega
     have HOW:Hid ((W.setCell ⟨w3.heap.size,x.length,none⟩ (.int .i64 ((qb pre x.length:Int)+1))).ownsRow (w.heap.size+1) 3 1 (.slice (some ⟨g,0,none⟩) x.length c) x.length (x.map (Value.int .i64))):=hid (qC hobW fun q hq=>bD _ _ _ _ fun e=>by
      have e2:q=w3.heap.size:=e;have:g=q:=by simpa[Value.ownBlock]using hq
      exact hgne (this.trans e2))
     have HAP:Hid (∀i,i < (yA no pre).length->∀q,(us.getD i undef).ownBlock=some q->(Value.slice (some ⟨g,0,none⟩) x.length c).ownBlock≠some q):=hid fun i hi q hq e=>by
      have h1:=((jX.rq.each i hi).lt q hq).2;have:g=q:=by simpa[Value.ownBlock]using e
      omega
     have hvb:xB pre<=60000:=by
      have h1:=qDB (k:=no) (fun q hq=>HTL.out q (hpre.subset (List.mem_append_left _ hq))) hcn;have h2:no*10000<=6*10000:=Nat.mul_le_mul_right _ ho6;omega
     have HVS:=hid (qA1 pre x);have HES:=hid (qA2 no pre x);have hel:(yA no pre).length<=10000:=by rw[qB4];exact hcn no
     have HJA:=hid ja;have HKA:=hid ka;have c1:=jW.hb.cell hx7;have f1:=jW.hb.free x.length;have n1:w.heap.size+1+1≠w3.heap.size:=xV jW.rb jW.hb (by decide);have n2:w.heap.size+1+1+1≠w3.heap.size:=xV jW.vb jW.hb (by decide);have n3:w.heap.size≠w3.heap.size:=xV jW.ob jW.hb (by decide);have x7:(x.length:Int) < 7:=by omega
     clear ja ja' ka hob hobW hgX hvX hoX jX hcn hk hpre hII hIX hgv;generalize xB pre=vn at *;generalize qb pre x.length=cn at *;have hsz:(W.setCell ⟨w3.heap.size,x.length,none⟩ (.int .i64 ((cn:Int)+1))).heap.size=W.heap.size:=by simp[World.setCell]
     have r1:=HJA.out.rb.cell;have r2:=HJA.out.rb.frozen;have v1:=HJA.out.vb.cell;have v2:=HJA.out.vb.frozen;have o1:=HJA.out.ob.cell;have hbs:w.heap.size < W.heap.size:=jW.ob.lt;have p1:=jW.rb.cell;have p2:=jW.vb.cell;have p3:=jW.ob.cell;have p4:=jW.rb.frozen;have p5:=jW.vb.frozen;by_cases hbig:10000 < cn+1
     ·have b1:(10000:Int) < (cn:Int)+1:=by omega
      obtain⟨jr,kr⟩:=HJA.out.reset;rw[hsz]at jr kr;obtain⟨jv,kv⟩:=jr.vis (-1);have HX:=hid (HFinX.out _ _ _ hbig jv ((HKA.out.trans kr).trans kv));have q1:=(HJA.out.rb.alloc (.cells #[] 24)).cell;have q2:=(HJA.out.rb.alloc (.cells #[] 24)).frozen;have q3:=jr.vb.cell;have q4:=jr.vb.frozen;clear jr kr jv kv HFin HFinX HOW HAP HVS HES HJA HKA;gi_wp2
      exact HX.out
     ·have b1:¬((10000:Int) < (cn:Int)+1):=by omega
      have HGV:Hid (g≠w.heap.size+1+1+1):=hid hgv2;have HGV2:Hid ((Value.slice (some ⟨g,0,none⟩) x.length c).ownBlock≠some (w.heap.size+1+1+1)):=hid fun e=>hgv2 (by simpa[Value.ownBlock]using e);by_cases hpos:0 < x.length
      ·have i1:(0:Int) < (x.length:Int):=by omega
       by_cases hend:x.length=no
       ·subst hend;obtain⟨jv,kv⟩:=HJA.out.vis ((vn:Int)+1);have hsz2:((W.setCell ⟨w3.heap.size,x.length,none⟩ (.int .i64 ((cn:Int)+1))).setCell ⟨w.heap.size+1+1+1,0,none⟩ (.int .i64 ((vn:Int)+1))).heap.size=W.heap.size:=by simp[World.setCell]
        have HOW2:=hid (qC HOW.out fun q hq=>bD (W.setCell ⟨w3.heap.size,x.length,none⟩ (.int .i64 ((cn:Int)+1))) ⟨w.heap.size+1+1+1,0,none⟩ (.int .i64 ((vn:Int)+1)) _ fun e=>HGV.out (by have:g=q:=(by simpa[Value.ownBlock]using hq);exact this.trans e));have t1:=jv.rb.cell;have t2:=jv.rb.frozen;have t3:=jv.ob.cell;have hvn:((xB (pre++[x]):Nat):Int)=(vn:Int)+1:=by rw[HVS.out,if_pos hpos];omega
        have hes:=HES.out;rw[if_pos rfl]at hes;have HJC:=hid jv;have HKC:=hid (HKA.out.trans kv);have HSZ:=hid hsz2;have HVN:=hid hvn;have HES2:=hid hes;clear hvn hes hsz hsz2 jv kv
        gi_wp2_with (first
         |(gi_at_builtin;refine yZ _ rfl _ _ 23 rfl (w.heap.size+1) 24 iS (.slice none 0 0) 1 24 Tryz.underlying23 hj hy0 hy1 hy2 rfl (by decide) vr _ us rfl (HJC.out.rq.own.alloc _) ⟨W.heap.size,0,none⟩ 1 1 [.slice (some ⟨g,0,none⟩) x.length c] rfl rfl (by rw[<-HSZ.out];exact qH _ _ _) (fun u hu=>by simp at hu;subst hu;rfl) (by decide) (by unfold maxLen;omega) (by omega) (by rw[World.size_alloc,HSZ.out];omega) ?_;intro g6 cp6 w6 hown6 hgrow6 hat6;obtain⟨r6,j6,k6⟩:=HJC.out.push HOW2.out HAP.out HGV2.out hown6 hgrow6 hat6;have u1:=r6.cell;have u2:=r6.frozen)
         |gi_in)
        exact HFin.out _ _ _ (by omega) (by rw[HVN.out,HES2.out];exact j6) (HKC.out.trans k6)
       ·have i2:¬((x.length:Int)=(no:Int)):=by omega
        obtain⟨jv,kv⟩:=HJA.out.vis ((vn:Int)+1);have hsz2:((W.setCell ⟨w3.heap.size,x.length,none⟩ (.int .i64 ((cn:Int)+1))).setCell ⟨w.heap.size+1+1+1,0,none⟩ (.int .i64 ((vn:Int)+1))).heap.size=W.heap.size:=by simp[World.setCell]
        have HOW2:=hid (qC HOW.out fun q hq=>bD (W.setCell ⟨w3.heap.size,x.length,none⟩ (.int .i64 ((cn:Int)+1))) ⟨w.heap.size+1+1+1,0,none⟩ (.int .i64 ((vn:Int)+1)) _ fun e=>HGV.out (by have:g=q:=(by simpa[Value.ownBlock]using hq);exact this.trans e));have t1:=jv.rb.cell;have t2:=jv.rb.frozen;have t3:=jv.ob.cell;have hvn:((xB (pre++[x]):Nat):Int)=(vn:Int)+1:=by rw[HVS.out,if_pos hpos];omega
        have hes:=HES.out;rw[if_neg hend,List.append_nil]at hes;have HF:=hid (HFin.out _ _ _ (by omega) (by rw[hvn,hes];exact jv) (HKA.out.trans kv));clear hvn hes hsz hsz2 jv kv HFin HFinX HJA HKA HOW;gi_wp2
        exact HF.out
      ·have i1:¬((0:Int) < (x.length:Int)):=by omega
       by_cases hend:x.length=no
       ·subst hend;have t1:=HJA.out.rb.cell;have t2:=HJA.out.rb.frozen;have t3:=HJA.out.ob.cell;have hvn:((xB (pre++[x]):Nat):Int)=(vn:Int):=by rw[HVS.out,if_neg hpos];omega
        have hes:=HES.out;rw[if_pos rfl]at hes;have HJC:=hid HJA.out;have HKC:=hid HKA.out;have HSZ:=hid hsz;have HVN:=hid hvn;have HES2:=hid hes;clear hvn hes hsz
        gi_wp2_with (first
         |(gi_at_builtin;refine yZ _ rfl _ _ 23 rfl (w.heap.size+1) 24 iS (.slice none 0 0) 1 24 Tryz.underlying23 hj hy0 hy1 hy2 rfl (by decide) vr _ us rfl (HJC.out.rq.own.alloc _) ⟨W.heap.size,0,none⟩ 1 1 [.slice (some ⟨g,0,none⟩) x.length c] rfl rfl (by rw[<-HSZ.out];exact qH _ _ _) (fun u hu=>by simp at hu;subst hu;rfl) (by decide) (by unfold maxLen;omega) (by omega) (by rw[World.size_alloc,HSZ.out];omega) ?_;intro g6 cp6 w6 hown6 hgrow6 hat6;obtain⟨r6,j6,k6⟩:=HJC.out.push HOW.out HAP.out HGV2.out hown6 hgrow6 hat6;have u1:=r6.cell;have u2:=r6.frozen)
         |gi_in)
        exact HFin.out _ _ _ (by omega) (by rw[HVN.out,HES2.out];exact j6) (HKC.out.trans k6)
       ·have i2:¬((x.length:Int)=(no:Int)):=by omega
        have t1:=HJA.out.rb.cell;have t2:=HJA.out.rb.frozen;have t3:=HJA.out.ob.cell;have hvn:((xB (pre++[x]):Nat):Int)=(vn:Int):=by rw[HVS.out,if_neg hpos];omega
        have hes:=HES.out;rw[if_neg hend,List.append_nil]at hes;have HF:=hid (HFin.out _ _ _ (by omega) (by rw[hvn,hes];exact HJA.out) HKA.out);clear hvn hes hsz HFin HFinX HJA HKA HOW;gi_wp2
        exact HF.out
    case done=>
     intro D W hD hI hK;rw[hII]at hI;obtain⟨vr,us,j,hc⟩:=hI;obtain⟨e1,e2⟩:=HFy.out hc
     have HF:Hid (∃v us,Ending.returned (.tuple #[vr,.int .i64 ((xB tot:Nat):Int)])=.returned (.tuple #[v,.int .i64 VJ])/\RQ (W.drew.putObj D (.deferred none)) w.heap.size v us RJ/\Bl w (W.drew.putObj D (.deferred none))):=hid (by
      have hp:=(KT.of_below (bI _ _).drew (nR _):KT W.heap.size W W.drew);have hk2:=KT.put (X:=W.drew) (B:=w.heap.size) (.deferred none) (by omega) hK rfl;rw[e1,e2];have j2:=(j.kt hp (by have:=j.ob.lt;omega)).kt hk2 (nR _);exact⟨vr,us,rfl,j2.rq.base (Nat.le_succ _),j2.bel⟩)
     have c1:=j.rb.cell;have c2:=j.vb.cell;clear e1 e2 hc j HFy HFn hII hIX hgv;generalize xB tot=vt at *;simp only[Exit.inBlock,Exit.then];go_upto_region 15 with fail
     have hmix:Tryz.prog.follows .mixedOrders=true:=by kernel_rfl
     go_region_law fail
     all_goals go_wp2_with fail
     all_goals exact⟨by simp,Or.inl ⟨D,_,rfl,run_takeDeferred hK,_,by simp[results,Tryz.results61,go_sem],HF.out⟩⟩
    case stop=>
     intro D c W hD hI hK;rw[hIX]at hI;obtain⟨rfl,⟨i,h1,h2⟩,vr,cc,j⟩:=hI;obtain⟨e1,e2⟩:=HFn.out i h1 h2
     have HF:Hid (∃v us,Ending.returned (.tuple #[vr,.int .i64 (-1)])=.returned (.tuple #[v,.int .i64 VJ])/\RQ (W.drew.putObj D (.deferred none)) w.heap.size v us RJ/\Bl w (W.drew.putObj D (.deferred none))):=hid (by
      have hp:=(KT.of_below (bI _ _).drew (nR _):KT W.heap.size W W.drew);have hk2:=KT.put (X:=W.drew) (B:=w.heap.size) (.deferred none) (by omega) hK rfl;rw[e1,e2];have j2:=(j.kt hp (by have:=j.ob.lt;omega)).kt hk2 (nR _);exact⟨vr,[],rfl,j2.rq.base (Nat.le_succ _),j2.bel⟩)
     have c1:=j.rb.cell;have c2:=j.vb.cell;clear e1 e2 j HFy HFn hII hIX hgv;gi_wp2
     go_upto_region 15 with fail
     have hmix:Tryz.prog.follows .mixedOrders=true:=by kernel_rfl
     go_region_law fail
     all_goals go_wp2_with fail
     all_goals exact⟨by simp,Or.inl ⟨D,_,rfl,run_takeDeferred hK,_,by simp[results,Tryz.results61,go_sem],HF.out⟩⟩
 ·have q8:(8:Int) < (n:Int):=by omega
  have HK0:Hid (okJ tl o=false):=hid (by rw[HOK.out,decide_eq_false h8];rfl);obtain⟨k1,k2⟩:=HSS.out W1 (bI _ _);clear HOK KO KA;go_wp2_with fail
  exact⟨_,by simp[results,Tryz.results61,go_sem],HEN.out _ (bI _ _) HK0.out⟩
theorem OwnT.keep{w':World}{vs ws:List Int}{rows:List (List Int)}(h:OwnT w B g0 g1 g2 vs rows ws f)(hb:∀q,B<=q->q < w.heap.size->w'.heap[q]?=w.heap[q]?)(hs:w.heap.size<=w'.heap.size):OwnT w' B g0 g1 g2 vs rows ws f:=by
 have h0:=h.lt0;have h1:=h.lt1;have h3:=h.lt3;have hg2:=h.wt.lt;exact⟨h.vr.move (hb _ h0 (by omega)) hs,h.rw.move (hb _ (by omega) (by omega)) (fun i hi=>hb _ (by have:=h.rw.gt i hi;omega) (h.rw.own i hi).lt) hs,h.wt.move (hb _ (by omega) hg2) hs,h.lt0,h.lt1,h.lt2,h.lt3⟩
theorem OwnT.base{B':Nat}{vs ws:List Int}{rows:List (List Int)}(h:OwnT w B g0 g1 g2 vs rows ws f)(hB:B'<=B):OwnT w B' g0 g1 g2 vs rows ws f:=⟨h.vr,h.rw,h.wt,bK hB h.lt0,h.lt1,h.lt2,h.lt3⟩
def TbCopy(W:World)(g i:Nat)(t:TbV):Prop:=∃g0 g1 g2 f,W.cell? ⟨g,i*3,none⟩=some (.slice (some ⟨g0,0,none⟩) t.vs.length t.vs.length)/\W.cell? ⟨g,i*3+1,none⟩=some (.slice (some ⟨g1,0,none⟩) t.rows.length t.rows.length)/\W.cell? ⟨g,i*3+2,none⟩=some (.slice (some ⟨g2,0,none⟩) t.ws.length t.ws.length)/\OwnT W (g+1) g0 g1 g2 t.vs t.rows t.ws f
theorem TbCopy.below(h:TbCopy W g i t)(hb:Bl W W'):TbCopy W' g i t:=by
 obtain⟨g0,g1,g2,f,h0,h1,h2,h3⟩:=h;exact⟨g0,g1,g2,f,zy hb h0,zy hb h1,zy hb h2,h3.below hb⟩
theorem TbCopy.set{v:Value}(h:TbCopy W g i t)(hq:q < i*3∨i*3+2 < q):TbCopy (W.setCell ⟨g,q,none⟩ v) g i t:=by
 obtain⟨g0,g1,g2,f,h0,h1,h2,h3⟩:=h
 exact⟨g0,g1,g2,f,(bC _ _ _ _ (by intro e;simp only[Addr.mk.injEq]at e;omega)).trans h0,(bC _ _ _ _ (by intro e;simp only[Addr.mk.injEq]at e;omega)).trans h1,(bC _ _ _ _ (by intro e;simp only[Addr.mk.injEq]at e;omega)).trans h2,
  h3.keep (fun k hk _=>bD _ _ _ _ (by show k≠g;omega)) (by simp[World.setCell])⟩
structure HalfT(W:World)(g n j:Nat)(tl:List TbV):Prop where
 any:∀q,q < n*3->∃u,W.cell? ⟨g,q,none⟩=some u
 free:∀q,q < n*3->W.frozen? ⟨g,q,none⟩=false
 copy:∀i,i < j->TbCopy W g i (tl.getD i qA)
theorem HalfT.below(h:HalfT W g n j tl)(hg:g < W.heap.size)(hb:Bl W W'):HalfT W' g n j tl:=
 ⟨fun q hq=>by obtain⟨u,hu⟩:=h.any q hq;exact⟨u,zy hb hu⟩,fun q hq=>(hb.frozen (p:=⟨g,q,none⟩) hg).trans (h.free q hq),fun i hi=>(h.copy i hi).below hb⟩
theorem vZ{q':Nat}{v:Value}(h:∃u,W.cell? ⟨g,q,none⟩=some u):∃u,(W.setCell ⟨g,q',none⟩ v).cell? ⟨g,q,none⟩=some u:=by
 obtain⟨u,hu⟩:=h;by_cases e:q=q'
 ·subst e;exact⟨v,bF _ _ _ hu⟩
 ·exact⟨u,(bC _ _ _ _ (by intro e2;simp only[Addr.mk.injEq]at e2;omega)).trans hu⟩
theorem HalfT.step(h:HalfT W g n j tl)(hj:j < n)(ho:OwnT W (g+1) g0 g1 g2 (tl.getD j qA).vs (tl.getD j qA).rows (tl.getD j qA).ws f):
 HalfT (((W.setCell ⟨g,j*3,none⟩ (.slice (some ⟨g0,0,none⟩) (tl.getD j qA).vs.length (tl.getD j qA).vs.length)).setCell ⟨g,j*3+1,none⟩ (.slice (some ⟨g1,0,none⟩) (tl.getD j qA).rows.length (tl.getD j qA).rows.length)).setCell ⟨g,j*3+2,none⟩ (.slice (some ⟨g2,0,none⟩) (tl.getD j qA).ws.length (tl.getD j qA).ws.length)) g n (j+1) tl where
 any q hq:=vZ (vZ (vZ (h.any q hq)))
 free q hq:=by rw[fS,fS,fS];exact h.free q hq
 copy i hi:=by
  by_cases e:i=j
  ·subst e;obtain⟨u0,c0⟩:=h.any (i*3) (by omega);obtain⟨u1,c1⟩:=h.any (i*3+1) (by omega);obtain⟨u2,c2⟩:=h.any (i*3+2) (by omega);have ne:∀(X:World) (a b:Nat) (v:Value),a≠b->(X.setCell ⟨g,b,none⟩ v).cell? ⟨g,a,none⟩=X.cell? ⟨g,a,none⟩:=fun X a b v hab=>bC _ _ _ _ (by intro e2;simp only[Addr.mk.injEq]at e2;omega);have kp:∀(X:World) (q:Nat) (v:Value),OwnT X (g+1) g0 g1 g2 (tl.getD i qA).vs (tl.getD i qA).rows (tl.getD i qA).ws f->OwnT (X.setCell ⟨g,q,none⟩ v) (g+1) g0 g1 g2 (tl.getD i qA).vs (tl.getD i qA).rows (tl.getD i qA).ws f:=fun X q v hX=>hX.keep (fun k hk _=>bD _ _ _ _ (by show k≠g;omega)) (by simp[World.setCell]);refine⟨g0,g1,g2,f,?_,?_,?_,kp _ _ _ (kp _ _ _ (kp _ _ _ ho))⟩
   ·rw[ne _ _ _ _ (by omega),ne _ _ _ _ (by omega)];exact bF _ _ _ c0
   ·rw[ne _ _ _ _ (by omega)];exact bF _ _ _ ((ne _ _ _ _ (by omega)).trans c1)
   ·exact bF _ _ _ ((ne _ _ _ _ (by omega)).trans ((ne _ _ _ _ (by omega)).trans c2))
  ·exact(((h.copy i (by omega)).set (by omega)).set (by omega)).set (by omega)
theorem Xp(w:World)(v:Value)(tl:List TbV)(h:ITs w v tl)(hl:tl.length<=1048576)(hs:∀t∈tl,TvS t):
 Cl 7 #[v] w fun e w'=>e=.returned (.slice (some ⟨w.heap.size,0,none⟩) tl.length tl.length)/\HalfT w' w.heap.size tl.length tl.length tl/\w.heap.size < w'.heap.size/\Bl w w':=by
 obtain⟨i0,hi,hz0,hz1,hz2⟩:=info_parts Tryz.infoTb;obtain⟨at',ct,rfl,hc⟩:=h
 have HC:Hid (∀W,Bl w W->∀j,j < tl.length->∃b oo,at'=some ⟨b,oo,none⟩/\TabAt W b (oo+j*3) (tl.getD j qA)):=hid fun W hW j hj=>by
  rcases hc with h0|⟨b,oo,rfl,h⟩
  ·omega
  ·exact⟨b,oo,rfl,(h j hj).below hW⟩
 have HR:Hid (∀j,j < tl.length->TvS (tl.getD j qA)):=hid fun j hj=>hs _ (by rw[gD,gE hj];exact gM _);obtain⟨n,hn⟩:∃n,n=tl.length:=⟨_,rfl⟩;rw[<-hn]at hl HC HR ⊢;clear hn hc hs;go_enter Tryz.func7,Tryz.ntmps7
 go_wp2_with (at_make;refine wpList_make_full _ rfl _ _ 32 rfl w.heap.size 53 i0 (.agg #[.slice none 0 0,.slice none 0 0,.slice none 0 0]) 3 Tryz.underlying32 hi hz0 hz1 _ _ _ _ n rfl rfl rfl rfl ?b2 ?b3 (nR _) ?_)
 case b2=>rw[hz2];omega
 case b3=>unfold maxLen;omega
 intro w0 hown0 hgrow0;have hb0:Bl w w0:=(bI _ _).grown hgrow0 (nR _) (fun j hj=>by cases hj);have hlt0:w.heap.size < w0.heap.size:=(hown0.lt _ rfl).2
 have hH0:HalfT w0 w.heap.size n 0 tl:=⟨fun q hq=>by
  rw[hown0.cellAt q hq];exact⟨_,gE (by rw[hown0.1];exact hq)⟩,fun q _=>hown0.frozenAt q,fun i hi=>by omega⟩
 have HH0:=hid (And.intro hb0 (And.intro hlt0 hH0));clear hown0 hgrow0 hb0 hlt0 hH0;go_wp2;go_loopw [4] (fun t wr=>∃j:Nat,j<=n/\t=.int .i64 j/\Hid (Bl w wr/\w.heap.size < wr.heap.size/\HalfT wr w.heap.size n j tl)) (fun t _=>n - (intOf t).toNat)
 case atStart=>exact⟨0,nZ _,rfl,HH0⟩
 case round=>
  clear HH0;obtain⟨j,hj,rfl,hH⟩:=hrel;obtain⟨hnx,hlt,hhr⟩:=hH.out;by_cases hjn:j < n
  ·have i1:(j:Int) < (n:Int):=by omega
   obtain⟨b,oo,ea,v0,v1,v2,c0,c1,c2,hI⟩:=HC.out wr hnx j hjn;subst ea;have HTs:=hid (HR.out j hjn);have K1:=hid (Yt wr v0 v1 v2 _ _ _ hI HTs.out.vs HTs.out.rows HTs.out.ws);have HNX:=hid hnx;have HHR:=hid hhr;obtain⟨a0,k0,e0,-⟩:=hI.vs;obtain⟨a1,k1,e1,-⟩:=hI.rows;obtain⟨a2,k2,e2,-⟩:=hI.ws;subst e0 e1 e2
   have HST:Hid (∀W g0 g1 g2 f,Bl wr W->OwnT W wr.heap.size g0 g1 g2 (tl.getD j qA).vs (tl.getD j qA).rows (tl.getD j qA).ws f->HalfT (((W.setCell ⟨w.heap.size,j*3,none⟩ (.slice (some ⟨g0,0,none⟩) (tl.getD j qA).vs.length (tl.getD j qA).vs.length)).setCell ⟨w.heap.size,j*3+1,none⟩ (.slice (some ⟨g1,0,none⟩) (tl.getD j qA).rows.length (tl.getD j qA).rows.length)).setCell ⟨w.heap.size,j*3+2,none⟩ (.slice (some ⟨g2,0,none⟩) (tl.getD j qA).ws.length (tl.getD j qA).ws.length)) w.heap.size n (j+1) tl):=hid (fun W g0 g1 g2 f hb ho=>
    (HHR.out.below hlt hb).step hjn (ho.base (by omega)))
   clear hH hnx hhr hI HC HTs;generalize (tl.getD j qA).rows.length=nr at *;generalize (tl.getD j qA).vs.length=n0 at *;generalize (tl.getD j qA).ws.length=n2 at *;go_wp2_with fail
   refine K1.out.mono ?_;rintro e w2 ⟨g0,g1,g2,f,rfl,ho,hb⟩;have hHR2:=HHR.out.below hlt hb;obtain⟨u0,d0⟩:=hHR2.any (j*3) (by omega);obtain⟨u1,d1⟩:=hHR2.any (j*3+1) (by omega);obtain⟨u2,d2⟩:=hHR2.any (j*3+2) (by omega);have f0:=hHR2.free (j*3) (by omega);have f1:=hHR2.free (j*3+1) (by omega);have f2:=hHR2.free (j*3+2) (by omega);have HF:=hid (HST.out w2 g0 g1 g2 f hb ho);have HB2:=hid (bt HNX.out hb);have hs2:=hb.size;clear hHR2 hb HST K1 ho;go_wp2;go_roundw
   case rel=>exact⟨j+1,by omega,by go_num,hid ⟨((HB2.out.setCell (nR _) _).setCell (nR _) _).setCell (nR _) _,by simp[World.setCell];omega,HF.out⟩⟩
   case measure=>simp[intOf];omega
  ·obtain rfl:j=n:=by omega
   have i1:¬((j:Int) < (j:Int)):=by omega
   have HX:=hid (And.intro hhr (And.intro hlt hnx));clear hH hnx hhr;go_wp2;go_ret;exact⟨rfl,HX.out⟩
structure ShTb(lo hi:Nat)(W:World)(g i:Nat)(t:TbV):Prop where
 vs:∃c,W.cell? ⟨g,i*3,none⟩=some (.slice (some ⟨c,0,none⟩) t.vs.length t.vs.length)/\ShI lo hi W c t.vs.length
 rows:∃G,W.cell? ⟨g,i*3+1,none⟩=some (.slice (some ⟨G,0,none⟩) t.rows.length t.rows.length)/\ShSS lo hi W G t.rows.length (fun j=>(t.rows.getD j []).length)
 ws:∃c,W.cell? ⟨g,i*3+2,none⟩=some (.slice (some ⟨c,0,none⟩) t.ws.length t.ws.length)/\ShI lo hi W c t.ws.length
theorem ShTb.kp{lo hi:Nat}(h:ShTb lo hi W g i t)(k:Mk lo hi W W'):ShTb lo hi W' g i t:=by
 obtain⟨c0,e0,h0⟩:=h.vs;obtain⟨G,e1,h1⟩:=h.rows;obtain⟨c2,e2,h2⟩:=h.ws;exact⟨⟨c0,k.sl _ _ _ _ _ e0,h0.kp k⟩,⟨G,k.sl _ _ _ _ _ e1,h1.kp k⟩,⟨c2,k.sl _ _ _ _ _ e2,h2.kp k⟩⟩
def qEN(lo hi:Nat)(W:World)(g:Nat)(tl:List TbV):Prop:=∀i,i < tl.length->ShTb lo hi W g i (tl.getD i qA)
theorem HalfT.sh(h:HalfT W g tl.length tl.length tl):qEN g W.heap.size W g tl:=fun i hi=>by
 obtain⟨g0,g1,g2,f,c0,c1,c2,ho⟩:=h.copy i hi;have h0:=ho.lt0;have h1:=ho.lt1;have h3:=ho.lt3;refine⟨⟨g0,c0,ho.vr.sh (by omega) ho.vr.lt⟩,⟨g1,c1,fun j hj=>?_⟩,⟨g2,c2,ho.wt.sh (by omega) ho.wt.lt⟩⟩;have e:=ho.rw.cell j hj;rw[if_pos hj]at e;have hg:=ho.rw.gt j hj;exact⟨f j,e,(ho.rw.own j hj).sh (by omega) (ho.rw.own j hj).lt⟩
theorem HalfT.its{c:Nat}(h:HalfT W g tl.length tl.length tl):ITs W (.slice (some ⟨g,0,none⟩) tl.length c) tl:=by
 refine⟨_,_,rfl,Or.inr ⟨g,0,rfl,fun j hj=>?_⟩⟩;obtain⟨g0,g1,g2,f,c0,c1,c2,ho⟩:=h.copy j hj;rw[Nat.zero_add];exact⟨_,_,_,c0,c1,c2,ho.it⟩
theorem Yi(w:World)(lo hi g cap:Nat)(tl:List TbV)(h:qEN lo hi w g tl)(hn:tl.length+zz tl<=1048576):
 Cl 12 #[.slice (some ⟨g,0,none⟩) tl.length cap,.int .i64 1] w fun e w'=>∃z:Nat,e=.returned (.int .i64 (z:Int))/\z<=1048577/\Mk lo hi w w':=by
 have HS:Hid (∀wr,Mk lo hi w wr->∀i,i < tl.length->ShTb lo hi wr g i (tl.getD i qA)):=hid fun wr hm i hi=>(h i hi).kp hm
 have HSu:Hid (∀j,j < tl.length->zz (tl.take (j+1))=zz (tl.take j)+szB (tl.getD j qA)):=hid fun j hj=>by
  unfold zz;rw[tA,gE hj,mA,List.sum_append,gD,gE hj];simp
 have HSn:Hid (∀j,j<=tl.length->zz (tl.take j)<=zz tl):=hid fun j _=>by
  have:zz tl=zz (tl.take j)+zz (tl.drop j):=by
   unfold zz;rw[<-List.sum_append,<-mA,tD]
  omega
 have HZ:Hid (∀t:TbV,szB t=t.vs.length+(t.rows.length+yd (fun j=>(t.rows.getD j []).length) t.rows.length)+t.ws.length):=hid fun t=>by unfold szB;rw[Q5 t.rows t.rows.length (nR _)]
 obtain⟨n,hn'⟩:∃n,n=tl.length:=⟨_,rfl⟩;rw[<-hn']at HS HSu HSn hn ⊢;clear hn' h;go_enter Tryz.func12,Tryz.ntmps12
 go_wp2_with fail
 go_loopw [1,5] (fun u t wr=>∃(j c:Nat),j<=n/\t=.int .i64 j/\u=.int .i64 (c:Int)/\c<=1+zz (tl.take j)/\Hid (Mk lo hi w wr)) (fun _ t _=>n - (intOf t).toNat)
 case atStart=>exact⟨0,1,nZ _,rfl,rfl,by omega,hid (Mk.refl _ _ _)⟩
 case round=>
  obtain⟨j,c,hj,rfl,rfl,hc,HM⟩:=hrel;have hsj:=HSn.out j hj;by_cases hjn:j < n
  ·have i1:(j:Int) < (n:Int):=by omega
   have hS:=HS.out wr HM.out j hjn;have hsu:=HSu.out j hjn;have hsn1:=HSn.out (j+1) hjn;have hz:=HZ.out (tl.getD j qA);obtain⟨b0,c0,s0⟩:=hS.vs;have HSj:Hid (∀W,Mk lo hi wr W->ShTb lo hi W g j (tl.getD j qA)):=hid fun W hm=>hS.kp hm;generalize tl.getD j qA=tb at *;have K0:=hid (yB wr lo hi b0 tb.vs.length tb.vs.length c s0 (by omega) (by omega));obtain⟨L1,hL1⟩:∃L1,L1=c+tb.vs.length:=⟨_,rfl⟩;obtain⟨L2,hL2⟩:∃L2,L2=L1+yd (fun j=>(tb.rows.getD j []).length) tb.rows.length:=⟨_,rfl⟩;obtain⟨L3,hL3⟩:∃L3,L3=L2+tb.ws.length:=⟨_,rfl⟩;rw[<-hL1]at K0
   have KR:Hid (∀W,Mk lo hi wr W->∃G,W.cell? ⟨g,j*3+1,none⟩=some (.slice (some ⟨G,0,none⟩) tb.rows.length tb.rows.length)/\Cl 39 #[.slice (some ⟨G,0,none⟩) tb.rows.length tb.rows.length,.int .i64 (L1:Int)] W fun e w'=>e=.returned (.int .i64 (L2:Int))/\Mk lo hi W w'):=hid fun W hm=>by
    obtain⟨G,h1,h2⟩:=(HSj.out W hm).rows;refine⟨G,h1,?_⟩;have:=kh W lo hi G tb.rows.length tb.rows.length L1 _ h2 (by omega) (by omega) (by omega);rw[<-hL2]at this;exact this
   have KW:Hid (∀W,Mk lo hi wr W->∃G,W.cell? ⟨g,j*3+2,none⟩=some (.slice (some ⟨G,0,none⟩) tb.ws.length tb.ws.length)/\Cl 38 #[.slice (some ⟨G,0,none⟩) tb.ws.length tb.ws.length,.int .i64 (L2:Int)] W fun e w'=>e=.returned (.int .i64 (L3:Int))/\Mk lo hi W w'):=hid fun W hm=>by
    obtain⟨G,h1,h2⟩:=(HSj.out W hm).ws;refine⟨G,h1,?_⟩;have:=yB W lo hi G tb.ws.length tb.ws.length L2 h2 (by omega) (by omega);rw[<-hL3]at this;exact this
   have hL3n:L3<=1+zz (tl.take (j+1)):=by omega
   clear s0 hS hL1 hL2 hL3 hz HSj;generalize tb.vs.length=n0 at *;generalize tb.rows.length=nr at *;generalize tb.ws.length=n2 at *
   go_wp2_with (first
    |(go_at_call 38;refine K2.mono ?_;rintro e w4 ⟨rfl,hm4'⟩;have HM4:=hid (HM.out.trans (hm3.trans hm4')))
    |(go_at_call 39;refine K1.mono ?_;rintro e w3 ⟨rfl,hm3'⟩;have hm3:=hm2.trans hm3';obtain⟨G2,d2,K2⟩:=KW.out w3 hm3)
    |(go_at_call 38;refine K0.out.mono ?_;rintro e w2 ⟨rfl,hm2⟩;obtain⟨G1,d1,K1⟩:=KR.out w2 hm2)
    |fail)
   clear hm2 hm3 hm3' hm4' K1 K2 K0 KR KW;go_roundw
   case rel=>exact⟨j+1,L3,by omega,by go_num,rfl,hL3n,HM4⟩
   case measure=>simp[intOf];omega
  ·obtain rfl:j=n:=by omega
   have i1:¬((j:Int) < (j:Int)):=by omega
   go_wp2;go_ret;exact⟨c,rfl,by omega,HM.out⟩
end Go.Proofs.YtjbpgdpciinlcaaGreat
