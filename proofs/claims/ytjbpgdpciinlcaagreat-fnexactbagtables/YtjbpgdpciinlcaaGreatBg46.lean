import Derived.Test.YtjbpgdpciinlcaaGreatBg30
set_option maxHeartbeats 40000000
set_option maxRecDepth 1000000
namespace Go.Proofs.YtjbpgdpciinlcaaGreat
open Go.RowKit
variable {ls:List (List Int)}{us:List Value}{B g p:Nat}{v:Value}{W w wr:World}
def Fz(B:Nat)(P:World->Prop)(w:World):Prop:=∀W',(∀k,B<=k->k < w.heap.size->W'.heap[k]?=w.heap[k]?)->P W'
section
variable {B B' p:Nat} {P Q:World->Prop} {w w':World}
theorem Fz.self(h:Fz B P w):P w:=h w fun _ _ _=>rfl
theorem Fz.below(h:Fz B P w)(hb:Bl w w'):Fz B P w':=fun W' hW'=>h W' fun k h1 h2=>(hW' k h1 (bM h2 hb.size)).trans (hb.block k h2)
theorem Fz.mono(h:Fz B P w)(hB:B'<=B):Fz B' P w:=fun W' hW'=>h W' fun k h1 h2=>hW' k (bK hB h1) h2
theorem Fz.imp(h:Fz B P w)(f:∀W,P W->Q W):Fz B Q w:=fun W' hW'=>f _ (h W' hW')
theorem RQ.fz(h:RQ w B v us ls):Fz B (fun W=>RQ W B v us ls) w:=fun _ hW'=>
 ⟨qC h.own fun g hg=>hW' g (h.own.lt g hg).1 (h.own.lt g hg).2,h.len,fun i hi=>qC (h.each i hi) fun g hg=>hW' g ((h.each i hi).lt g hg).1 ((h.each i hi).lt g hg).2,h.ap⟩
theorem qAw{l:List Int}(h:w.ownsRow B 3 1 v l.length (l.map (Value.int .i64))):Fz B (fun W=>IS W v l) w:=fun _ hW'=>qW (qC h fun g hg=>hW' g (h.lt g hg).1 (h.lt g hg).2)
end
def Fx(B p:Nat)(P:World->Prop)(w:World):Prop:=∀W',(∀k,B<=k->k < w.heap.size->k≠p->W'.heap[k]?=w.heap[k]?)->P W'
theorem Fx.below{P:World->Prop}{w':World}(h:Fx B p P w)(hb:Bl w w'):Fx B p P w':=fun W' hW'=>h W' fun k h1 h2 h3=>(hW' k h1 (bM h2 hb.size) h3).trans (hb.block k h2)
theorem RSx.fx{W0:World}(h1:RSx (fun u=>∀k,u.ownBlock=some k->B<=k/\k≠p) W0 W v us ls)(hb:Bl W0 W)(hv:∀k,v.ownBlock=some k->B<=k/\k≠p):Fx B p (fun W=>ISS W v ls) W:=fun W' hW'=>by
 obtain⟨⟨a,cap,rfl,hc,hq⟩,-,hel⟩:=h1;refine⟨a,cap,rfl,?_⟩;rcases hq with hq|⟨b,o,rfl,hq⟩
 ·exact Or.inl hq
 ·refine Or.inr ⟨b,o,rfl,fun j hj=>?_⟩;obtain⟨⟨⟨a2,c2,e2,h2⟩,h3⟩,h4⟩:=hel j hj;refine⟨us.getD j undef,?_,⟨a2,c2,e2,?_⟩⟩
  ·exact(bE (w:=W) (a:=⟨b,o+j,none⟩) (hW' b (hv b rfl).1 (bL W _ (hq j hj)) (hv b rfl).2)).trans (hq j hj)
  ·rcases h2 with h2|⟨b2,o2,rfl,h2⟩
   ·exact Or.inl h2
   ·refine Or.inr ⟨b2,o2,rfl,fun i hi=>?_⟩;have h5:W.cell? ⟨b2,o2+i,none⟩=some (.int .i64 (ls.getD j []|>.getD i 0)):=(hb.cell (p:=⟨b2,o2+i,none⟩) (bL W0 _ (h2 i hi))).trans (h2 i hi);exact(bE (w:=W) (a:=⟨b2,o2+i,none⟩) (hW' b2 (h4 b2 (by rw[e2];rfl)).1 (bL W _ h5) (h4 b2 (by rw[e2];rfl)).2)).trans h5
structure TbC where
 v0:Value
 v1:Value
 v2:Value
 t:TbV
def qBq:TbC:=⟨undef,undef,undef,qA⟩
def tcc(r:TbC):List Value:=[r.v0,r.v1,r.v2]
def ITc(W:World)(r:TbC):Prop:=IT W r.v0 r.v1 r.v2 r.t.vs r.t.rows r.t.ws
def ElV(v:Value)(W:World)(r:TbC):Prop:=∀W',(∀k,k < W.heap.size->v.ownBlock≠some k->W'.heap[k]?=W.heap[k]?)->ITc W' r
structure TCs(W:World)(B:Nat)(v:Value)(rl:List TbC):Prop where
 own:W.ownsRow B 53 3 v rl.length (rl.flatMap tcc)
 el:∀r∈rl,ElV v W r
theorem TCs.push{w3:World}{c:Nat}{rl:List TbC}{r:TbC}{o:Obj}(h:TCs wr B v rl)(hb:Bl wr W)(he:Fz wr.heap.size (fun W=>ITc W r) W)(hg:(W.alloc o).grownBy w3 v.ownBlock)(hown:w3.ownsRow B 53 3 (.slice (some ⟨g,0,none⟩) (rl.length+1) c) (rl.length+1) (rl.flatMap tcc++[r.v0,r.v1,r.v2]))(hat:v.ownBlock=some g∨g=(W.alloc o).heap.size):
 TCs w3 B (.slice (some ⟨g,0,none⟩) (rl.length+1) c) (rl++[r]):=by
 have hs:=hb.size;have hs3:=hg.size;rw[World.size_alloc]at hs3 hat;refine⟨by rw[lA,lS,List.flatMap_append];simpa[tcc]using hown,fun q hq W' hW'=>?_⟩
 have key:∀k,k < W.heap.size->v.ownBlock≠some k->g≠k->W'.heap[k]?=W.heap[k]?:=fun k hk h1 h2=>by
  rw[hW' k (by omega) (fun e=>h2 (by simpa[Value.ownBlock]using e)),hg.block k (by rw[World.size_alloc];omega) (fun e=>h1 e.symm)];exact Below.heap_alloc _ _ _ hk
 have hvl:∀k,v.ownBlock=some k->k < wr.heap.size:=fun k hk=>(h.own.lt k hk).2;rcases List.mem_append.1 hq with hq|hq
 ·refine h.el q hq W' fun k hk h1=>?_;rw[key k (by omega) h1 (fun e=>?_)]
  ·exact hb.block k hk
  ·subst e;rcases hat with h2|h2
   ·exact h1 h2
   ·omega
 ·rw[List.mem_singleton]at hq;subst hq;refine he W' fun k h1 h2=>key k h2 (fun e=>?_) (fun e=>?_)
  ·have:=hvl k e;omega
  ·subst e;rcases hat with h3|h3
   ·have:=hvl _ h3;omega
   ·omega
theorem TCs.below{W':World}{rl:List TbC}(h:TCs W B v rl)(hb:Bl W W'):TCs W' B v rl:=by
 refine⟨qB h.own hb,fun r hr X hX=>h.el r hr X fun k hk hn=>?_⟩;rw[hX k (bM hk hb.size) hn];exact hb.block k hk
theorem TCs.its{rl:List TbC}(h:TCs W B v rl):ITs W v (rl.map TbC.t):=by
 obtain⟨a,cap,e,hc⟩:=qAW tcc (fun _=>rfl) qBq h.own;refine⟨a,cap,by rw[lM];exact e,?_⟩;rcases hc with h0|⟨g,ea,-,hc⟩
 ·exact Or.inl (by rw[lM];exact h0)
 ·refine Or.inr ⟨g,0,ea,fun j hj=>?_⟩;rw[lM]at hj;have ht:ITc W (rl.getD j qBq):=h.el _ (by rw[gD,gE hj];exact gM _) W fun _ _ _=>rfl
  have eg:(rl.map TbC.t).getD j qA=(rl.getD j qBq).t:=by
   rw[gD,gD,bJ,gE hj];rfl
  rw[eg,Nat.zero_add];exact⟨_,_,_,hc j 0 hj (by omega),hc j 1 hj (by omega),hc j 2 hj (by omega),ht⟩
theorem ZB(w:World)(v0 v1 v2:Value)(ad:Addr)(cv:Nat)(vs:List Int)(rows:List (List Int))(ws vars:List Int)(h:IT w v0 v1 v2 vs rows ws)(hv:IS w (.slice (some ad) vars.length cv) vars)(hlv:vars.length<=1000)(hls:vs.length<=1000)(hn:rows.length<=100000)(hrow:∀r∈rows,r.length=vs.length):
 Cl 21 #[.agg #[v0,v1,v2],.slice (some ad) vars.length cv] w fun e w'=>∃x0 x1 x2,e=.returned (.agg #[x0,x1,x2])/\Fz w.heap.size (fun W=>IT W x0 x1 x2 vars (srt (rows.map (qK vs vars))) (xW (srt (rows.map (qK vs vars))).length)) w'/\Bl w w':=by
 obtain⟨iS,hj,hy0,hy1,hy2⟩:=info_parts Tryz.infoIS;obtain⟨i0,hi,hz0,hz1,hz2⟩:=info_parts Tryz.infoInt;obtain⟨W1,hW1⟩:∃W1,W1=(w.alloc (.cells #[v0,v1,v2] 53)).alloc (.cells #[.slice none 0 0,.slice none 0 0,.slice none 0 0] 53):=⟨_,rfl⟩;have hB1:Bl w W1:=by rw[hW1];exact((bI _ _).alloc (nR _) _).alloc (by simp) _
 have HT1:Hid (TX W1 w.heap.size v0 v1 v2):=hid (by rw[hW1];exact(TX.made _ _ _ _).below ((bI _ _).alloc (nR _) _))
 have HR1:Hid (TX W1 (w.heap.size+1) (.slice none 0 0) (.slice none 0 0) (.slice none 0 0)):=hid (by
  rw[hW1];have:=TX.made (w.alloc (.cells #[v0,v1,v2] 53)) (.slice none 0 0) (.slice none 0 0) (.slice none 0 0);rw[World.size_alloc]at this;exact this)
 have HI:Hid (∀W,Bl w W->IT W v0 v1 v2 vs rows ws/\IS W (.slice (some ad) vars.length cv) vars):=hid fun W hW=>⟨h.below hW,hv.below hW⟩;have HB1:=hid hB1;obtain⟨a0,c0,e0,-⟩:=h.vs;obtain⟨a1,c1,e1,hc1⟩:=h.rows;obtain⟨a2,c2,e2,-⟩:=h.ws;subst e0 e1 e2
 have HC:Hid (∀W,Bl w W->∀j,j < rows.length->∃(b o:Nat) (u:Value),a1=some ⟨b,o,none⟩/\W.cell? ⟨b,o+j,none⟩=some u/\IS W u (rows.getD j [])):=hid fun W hW j hj=>by
  rcases hc1 with h0|⟨b,o,rfl,hq⟩
  ·omega
  ·obtain⟨u,h1,h2⟩:=hq j hj;exact⟨b,o,u,rfl,(hW.cell (bL w _ h1)).trans h1,h2.below hW⟩
 have KV:Hid (∀W u j,Bl w W->j < rows.length->IS W u (rows.getD j [])->Cl 47 #[.agg #[.slice a0 vs.length c0,.slice a1 rows.length c1,.slice a2 ws.length c2],u,.slice (some ad) vars.length cv] W fun e w'=>∃v,e=.returned v/\w'.ownsRow W.heap.size 3 1 v (qK vs vars (rows.getD j [])).length ((qK vs vars (rows.getD j [])).map (Value.int .i64))/\Bl W w'):=hid fun W u j hW hj hu=>
  jL W _ _ _ u _ vs (rows.getD j []) vars rows.length ws.length ⟨_,_,rfl⟩ ⟨_,_,rfl⟩ (HI.out W hW).1.vs hu (HI.out W hW).2 (by omega) (hrow _ (by rw[gD,gE hj];exact gM _)) hlv
 have HP:Hid (∀j,j < rows.length->(rows.take (j+1)).map (qK vs vars)=(rows.take j).map (qK vs vars)++[qK vs vars (rows.getD j [])]):=hid fun j hj=>by
  rw[tA,gE hj,gD,gE hj,mA];rfl
 have HPl:Hid (∀j,j<=rows.length->((rows.take j).map (qK vs vars)).length=j):=hid fun j hj=>by rw[lM,bQ];omega
 have HPn:Hid ((rows.take rows.length).map (qK vs vars)=rows.map (qK vs vars)):=hid (by rw[tL])
 have HM:Hid (∀r∈rows.map (qK vs vars),r.length<=1099511627776):=hid fun r hr=>by
  obtain⟨q,-,rfl⟩:=List.mem_map.1 hr;rw[uP];omega
 have hs1:W1.heap.size=w.heap.size+2:=by rw[hW1];simp
 have HS0:Hid (Bl w (W1.alloc (.cells #[] 24))/\RQ (W1.alloc (.cells #[] 24)) w.heap.size (.slice (some ⟨w.heap.size+2,0,none⟩) 0 0) [] []/\TX (W1.alloc (.cells #[] 24)) w.heap.size (.slice a0 vs.length c0) (.slice a1 rows.length c1) (.slice a2 ws.length c2)/\TX (W1.alloc (.cells #[] 24)) (w.heap.size+1) (.slice none 0 0) (.slice none 0 0) (.slice none 0 0)):=hid (by
  have hA:Bl W1 (W1.alloc (.cells #[] 24)):=(bI _ _).alloc (nR _) _;refine⟨bt hB1 hA,⟨?_,rfl,fun i hi=>by simp at hi,fun i j _ hj=>by simp at hj⟩,HT1.out.below hA,HR1.out.below hA⟩;have:=oM W1 (e:=24) (size:=1) (base:=w.heap.size) #[] 0 (by omega) (by decide) rfl;rw[hs1]at this;exact this)
 clear hc1 h hv hrow hB1 HT1 HR1 HB1;obtain⟨n,hn'⟩:∃n,n=rows.length:=⟨_,rfl⟩;rw[<-hn']at HC KV HP HPl HPn HS0 hn hW1 ⊢;clear hn';generalize vs.length=l0 at *;generalize ws.length=l2 at *;go_enter Tryz.func21,Tryz.ntmps21
 go_upto_region 1 with fail
 rw[<-hW1];clear hW1;go_upto_region 2 with fail
 clear hs1;generalize W1.alloc (.cells #[] 24)=W2 at *;have d1:=HS0.out.2.2.1.c1;go_wp2_with fail
 clear d1;go_loopw [5,13] (fun u t wr=>∃(j:Nat) (vo:Value),j<=n/\t=.int .i64 j/\vo=u/\Hid (∃uo,Bl w wr/\RQ wr w.heap.size vo uo ((rows.take j).map (qK vs vars))/\TX wr w.heap.size (.slice a0 l0 c0) (.slice a1 n c1) (.slice a2 l2 c2)/\TX wr (w.heap.size+1) (.slice none 0 0) (.slice none 0 0) (.slice none 0 0))) (fun _ t _=>n - (intOf t).toNat)
 case atStart=>exact⟨0,_,nZ _,rfl,rfl,hid ⟨[],HS0.out.1,HS0.out.2.1,HS0.out.2.2.1,HS0.out.2.2.2⟩⟩
 case round=>
  clear HS0;obtain⟨j,vo,hjn,rfl,rfl,HT⟩:=hrel;obtain⟨uo,hB,hQ,hT,hRs⟩:=HT.out;have HQ:=hid hQ;have HB:=hid hB;have HX:=hid hT;have HRs:=hid hRs;clear HT hQ hB hT hRs;by_cases hlt:j < n
  ·have i1:(j:Int) < (n:Int):=by omega
   obtain⟨b,o,u,ea,e1,hu⟩:=HC.out wr HB.out j hlt;subst ea;have KV1:=hid (KV.out wr u j HB.out hlt hu);have HPj:=hid (HP.out j hlt);have hlj:=HPl.out j hjn;have d0:=HX.out.c0;have d1:=HX.out.c1;have d2:=HX.out.c2;obtain⟨au,cu,rfl,-⟩:=hu;generalize (rows.getD j []).length=lr at *;generalize qK vs vars (rows.getD j [])=pr at *;go_wp2_with fail
   refine KV1.out.mono ?_;rintro e w2 ⟨v2,rfl,hv2,hb2⟩;have HQ2:=hid (HQ.out.below hb2);have HB2:=hid (bt HB.out hb2);have HX2:=hid (HX.out.below hb2);have HRs2:=hid (HRs.out.below hb2);have HV2:=hid (qF hv2 HB.out.size)
   have HAp:Hid (∀i,i < ((rows.take j).map (qK vs vars)).length->∀g,(uo.getD i undef).ownBlock=some g->v2.ownBlock≠some g):=hid fun i hi g h1 h2=>by
    have a1:=((HQ.out.each i hi).lt g h1).2;have a2:=(hv2.lt g h2).1;omega
   obtain⟨a3,k3,e3⟩:=zD hv2;subst e3;have hs2:=HB2.out.size;clear hv2 hb2 KV1 e1 HQ HB HX HRs d0 d1 d2;have ho2:w2.ownsRow w.heap.size 24 1 vo j uo:=by have:=HQ2.out.own;rw[hlj]at this;exact this
   have HO2:=hid ho2;clear ho2;go_wp2_with (first|(at_builtin;refine wpList_append_lies _ rfl _ _ 23 rfl w.heap.size 24 iS (.slice none 0 0) 1 24 Tryz.underlying23 hj hy0 hy1 hy2 rfl (by decide) vo _ uo rfl (HO2.out.alloc _) ⟨_,0,none⟩ 1 1 [.slice a3 pr.length k3] rfl rfl (qH _ _ _) (fun u hu=>by simp at hu;subst hu;rfl) (by decide) (by unfold maxLen;omega) (by omega) (by simp;omega) _ rfl ?_;intro g3 cp3 w3 hown3 hgrow3 hat3 hlt3)|fail)
   have HN:Hid (∃uo',Bl w w3/\RQ w3 w.heap.size (.slice (some ⟨g3,0,none⟩) (j+1) cp3) uo' ((rows.take (j+1)).map (qK vs vars))/\TX w3 w.heap.size (.slice a0 l0 c0) (.slice (some ⟨b,o,none⟩) n c1) (.slice a2 l2 c2)/\TX w3 (w.heap.size+1) (.slice none 0 0) (.slice none 0 0) (.slice none 0 0)):=hid ⟨_,(HB2.out.alloc hs2 _).grown hgrow3 (by simp;omega) (fun q hq=>(HO2.out.lt q hq).1),by rw[HPj.out];exact HQ2.out.step HV2.out HAp.out (by rw[hlj];exact hown3) hgrow3,HX2.out.grown HO2.out (by decide) hgrow3,HRs2.out.grown HO2.out (by decide) hgrow3⟩;clear hown3 hgrow3 hat3 hlt3;go_roundw
   case rel=>exact⟨j+1,_,by omega,by go_num,rfl,HN⟩
   case measure=>simp[intOf];omega
  ·obtain rfl:j=n:=by omega
   have i1:¬((j:Int) < (j:Int)):=by omega
   have hlj:=HPl.out j (nR _);rw[HPn.out]at HQ hlj;clear HC KV HP HPl HPn HX
   obtain⟨b,o,eb,hcv⟩:∃b o,(0 < vars.length->ad=⟨b,o,none⟩)/\∀q,q < vars.length->wr.cell? ⟨b,o+q,none⟩=some (.int .i64 (vars.getD q 0)):=by
    obtain⟨a',c',e,hh⟩:=(HI.out wr HB.out).2;simp only[Value.slice.injEq]at e;obtain⟨rfl,-,-⟩:=e;rcases hh with h0|⟨b,o,e,hh⟩
    ·exact⟨0,0,fun h=>by omega,fun q hq=>by omega⟩
    ·exact⟨b,o,fun _=>Option.some.inj e,hh⟩
   have hown:(wr.alloc (.cells #[] 3)).ownsRow wr.heap.size 3 1 (.slice (some ⟨wr.heap.size,0,none⟩) 0 0) 0 []:=oM wr #[] 0 (nR _) (by decide) rfl;have hbA:Bl wr (wr.alloc (.cells #[] 3)):=(bI _ _).alloc (nR _) _
   have hnews:∀q u,(vars.map (Value.int .i64))[q]?=some u->(wr.alloc (.cells #[] 3)).cell? (ad.add q)=some u:=fun q u hu=>by
    have hq:q < vars.length:=by
     rcases Nat.lt_or_ge q vars.length with h|h
     ·exact h
     ·rw[gN (by simpa using h)]at hu;cases hu
    rw[eb (by omega),show((⟨b,o,none⟩:Addr).add q)=⟨b,o+q,none⟩by unfold Addr.add;split <;> simp_all,hbA.cell (p:=⟨b,o+q,none⟩) (bL wr _ (hcv q hq)),hcv q hq,<-hu,bJ,gD,gE hq];rfl
   have HNW:=hid hnews;have HOW:=hid hown;have HBA:=hid hbA;clear hnews hcv eb hown hbA HI;generalize wr=W5 at *;go_wp2_with (first|(at_builtin;refine wpList_append_own _ rfl _ _ 24 rfl W5.heap.size 3 i0 (.int .i64 0) 1 8 Tryz.underlying24 hi hz0 hz1 hz2 rfl (by decide) (.slice (some ⟨W5.heap.size,0,none⟩) 0 0) 0 [] rfl HOW.out ad vars.length cv (vars.map (Value.int .i64)) rfl (by rw[lM];omega) HNW.out (fun u hu=>by obtain⟨x,_,rfl⟩:=List.mem_map.1 hu;rfl) (by unfold maxLen;omega) (by omega) (by simp) ?_;intro v6 w6 hown6 hgrow6 _)|fail)
   have hb6:Bl W5 w6:=HBA.out.grown hgrow6 (by simp) (fun k hk=>(HOW.out.lt k hk).1);have HQ6:=hid (HQ.out.below hb6);have HB6:=hid (bt HB.out hb6);have HRs6:=hid (HRs.out.below hb6);have HV6:Hid (w6.ownsRow w.heap.size 3 1 v6 vars.length (vars.map (Value.int .i64))):=hid (qF (by simpa using hown6) HB.out.size);obtain⟨a6,k6,e6⟩:=zD HV6.out;subst e6;have KS:=hid (kD (fun u=>∀k,u.ownBlock=some k->w.heap.size<=k/\k≠w.heap.size+1) w6 _ w6 vo uo (rows.map (qK vs vars)) (nR _) (bI _ _) ⟨HQ6.out.rs.sl,HQ6.out.rs.len,fun i hi=>⟨HQ6.out.rs.each i hi,fun k hk=>⟨((HQ6.out.each i hi).lt k hk).1,by rintro rfl;exact own_ne (HQ6.out.each i hi) HRs6.out.typ (by decide) hk.symm⟩⟩⟩ (by omega) HM.out);have hlS:=x8 _ (rows.map (qK vs vars)) (nR _);rw[hlj]at hlS;generalize hR:srt (rows.map (qK vs vars))=R at *;have HRe:=hid hR;clear hR;have HTv:Hid (∀g,vo.ownBlock=some g->∃cur,w6.heap[g]?=some (.cells cur 24 (0,0))):=hid fun g hg=>qY HQ6.out.own hg;clear hb6 hown6 hgrow6 HOW HBA HNW HQ HB HRs HM;refine KS.out.mono ?_;rintro e w7 ⟨v7,us7,rfl,hRS7,hNw,hb7⟩;have HB7:=hid (bt HB6.out hb7);have HRs7:=hid (HRs6.out.below hb7);have HV7:=hid (qB HV6.out hb7)
   have HNl:Hid (∀g,v7.ownBlock=some g->w.heap.size<=g):=hid fun g hg=>by
    rcases hNw with h1|h1
    ·rw[h1]at hg;exact(HQ6.out.own.lt g hg).1
    ·exact bK HB6.out.size (h1 g hg)
   have HNe:Hid (v7.ownBlock≠some (w.heap.size+1)):=hid fun e=>by
    rcases hNw with h1|h1
    ·rw[h1]at e;obtain⟨cur,hc⟩:=HTv.out _ e;rw[HRs6.out.blk]at hc;simp at hc
    ·have:=h1 _ e;have:=HRs6.out.lt;omega
   have HI7:=hid (hRS7.fx hb7 fun k hk=>⟨HNl.out k hk,by rintro rfl;exact HNe.out hk⟩);obtain⟨⟨a7,k7,e7,-,-⟩,-,-⟩:=hRS7;subst e7;clear hb7 KS HQ6 HB6 HRs6 HV6 HTv hNw;go_upto_region 8 with fail
   have HAl:Hid (Bl w7 (w7.alloc (.cells #[.slice a6 vars.length k6,.slice a7 R.length k7,.slice none 0 0] 53))):=hid ((bI _ _).alloc (nR _) _);have HX8:=hid (TX.made w7 (.slice a6 vars.length k6) (.slice a7 R.length k7) (.slice none 0 0));have hq1:w.heap.size+1 < w7.heap.size:=HRs7.out.lt;have HS8:Hid (Bl w7 (w7.alloc (.cells #[.slice a6 vars.length k6,.slice a7 R.length k7,.slice none 0 0] 53))/\TX (w7.alloc (.cells #[.slice a6 vars.length k6,.slice a7 R.length k7,.slice none 0 0] 53)) w7.heap.size (.slice a6 vars.length k6) (.slice a7 R.length k7) (.slice none 0 0)/\(w7.alloc (.cells #[.slice a6 vars.length k6,.slice a7 R.length k7,.slice none 0 0] 53)).ownsRow w7.heap.size 3 1 (.slice none 0 0) 0 (List.replicate 0 (.int .i64 1))):=hid ⟨HAl.out,HX8.out,oN _ _ _ _⟩;clear HAl HX8;generalize w7.alloc (.cells #[.slice a6 vars.length k6,.slice a7 R.length k7,.slice none 0 0] 53)=W8 at *;have d1:=HS8.out.2.1.c1;obtain⟨r,hr⟩:∃r,r=R.length:=⟨_,rfl⟩;have HRr:=hid hr;rw[<-hr]at HS8 d1 hlS ⊢;clear hr;go_wp2_with fail
   clear d1;go_loopw [34] (fun t wr=>∃(q:Nat),q<=r/\t=.int .i64 q/\Hid (∃vw,Bl w7 wr/\TX wr w7.heap.size (.slice a6 vars.length k6) (.slice a7 r k7) vw/\wr.ownsRow w7.heap.size 3 1 vw q (List.replicate q (.int .i64 1)))) (fun t _=>r - (intOf t).toNat)
   case atStart=>exact⟨0,nZ _,rfl,hid ⟨_,HS8.out.1,HS8.out.2.1,HS8.out.2.2⟩⟩
   case round=>
    clear HS8;obtain⟨q,hqr,rfl,HT⟩:=hrel;obtain⟨vw,hB,hX,hO⟩:=HT.out;have HB9:=hid hB;have HX9:=hid hX;have HO9:=hid hO;clear HT hB hX hO;by_cases hlt:q < r
    ·have i2:(q:Int) < (r:Int):=by omega
     have d2:=HX9.out.c2;have hs9:=HB9.out.size;generalize wr=W9 at *;go_wp2_with (first|(at_builtin;refine wpList_append_lies _ rfl _ _ 24 rfl w7.heap.size 3 i0 (.int .i64 0) 1 8 Tryz.underlying24 hi hz0 hz1 hz2 rfl (by decide) vw _ _ rfl (HO9.out.alloc _) ⟨_,0,none⟩ 1 1 [.int .i64 1] rfl rfl (qH _ _ _) (fun u hu=>by simp at hu;subst hu;rfl) (by decide) (by unfold maxLen;omega) (by omega) (by simp;omega) _ rfl ?_;intro g3 cp3 w3 hown3 hgrow3 hat3 hlt3;have c2':=(HX9.out.grown HO9.out (by decide) hgrow3).c2;have f2':=(HX9.out.grown HO9.out (by decide) hgrow3).free 2)|fail)
     have HX3:=hid (HX9.out.grown HO9.out (by decide) hgrow3);have HN:Hid (∃vw',Bl w7 (w3.setCell ⟨w7.heap.size,2,none⟩ (.slice (some ⟨g3,0,none⟩) (q+1) cp3))/\TX (w3.setCell ⟨w7.heap.size,2,none⟩ (.slice (some ⟨g3,0,none⟩) (q+1) cp3)) w7.heap.size (.slice a6 vars.length k6) (.slice a7 r k7) vw'/\(w3.setCell ⟨w7.heap.size,2,none⟩ (.slice (some ⟨g3,0,none⟩) (q+1) cp3)).ownsRow w7.heap.size 3 1 vw' (q+1) (List.replicate (q+1) (.int .i64 1))):=hid ⟨_,((HB9.out.alloc hs9 _).grown hgrow3 (by simp;omega) (fun k hk=>(HO9.out.lt k hk).1)).setCell (nR _) _,HX3.out.set2 _,zd (by rw[List.replicate_succ'];exact hown3) HX3.out.typ (by decide)⟩;clear hown3 hgrow3 hat3 hlt3 c2' f2' d2;go_roundw
     case rel=>exact⟨q+1,by omega,by go_num,HN⟩
     case measure=>simp[intOf];omega
    ·obtain rfl:q=r:=by omega
     have i2:¬((q:Int) < (q:Int)):=by omega
     obtain⟨aw,kw,ew⟩:=zD HO9.out;subst ew;have d0:=HX9.out.c0;have d1:=HX9.out.c1;have d2:=HX9.out.c2;have HRs9:=hid (HRs7.out.below HB9.out);have f0:=HRs9.out.free 0;have f1:=HRs9.out.free 1;have f2:=HRs9.out.free 2;have r0:=HRs9.out.c0;have r1:=HRs9.out.c1;have r2:=HRs9.out.c2
     have HFin:Hid (∀x0 x1 x2,Fz w.heap.size (fun W=>IT W (.slice a6 vars.length k6) (.slice a7 q k7) (.slice aw q kw) vars R (xW R.length)) (((wr.setCell ⟨w.heap.size+1,0,none⟩ x0).setCell ⟨w.heap.size+1,1,none⟩ x1).setCell ⟨w.heap.size+1,2,none⟩ x2)):=hid fun x0 x1 x2 W' hW'=>by
      have hX:=HRs9.out
      have hK:∀k,w.heap.size<=k->k < wr.heap.size->k≠w.heap.size+1->W'.heap[k]?=wr.heap[k]?:=fun k h1 h2 h3=>by
       rw[hW' k h1 (by simp only[World.size_setCell];exact h2),bD _ _ _ _ (by exact h3),bD _ _ _ _ (by exact h3),bD _ _ _ _ (by exact h3)]
      have ho:∀{B n:Nat} {v:Value} {xs:List Value},wr.ownsRow B 3 1 v n xs->w.heap.size<=B->W'.ownsRow B 3 1 v n xs:=fun {B n v xs} h hB=>qC h fun g hg=>hK g (bK hB (h.lt g hg).1) (h.lt g hg).2 (by rintro rfl;exact own_ne h hX.typ (by decide) hg.symm);rw[<-HRr.out];refine⟨qW (ho (qB HV7.out HB9.out) (nR _)),?_,?_⟩
      ·have h7:=HI7.out.below HB9.out;rw[<-HRr.out]at h7;exact h7 W' hK
      ·have:=qW (l:=xW q) (by rw[y7,uj];exact ho HO9.out (by omega));exact this
     go_wp2_with fail
     refine bodyPost_ret (v:=.agg #[.slice a6 vars.length k6,.slice a7 q k7,.slice aw q kw]) (by simp[results,Tryz.results21,go_sem,r0,r1,r2]) rfl ⟨_,_,_,rfl,by rw[HRe.out];exact HFin.out _ _ _,?_⟩;exact(((bt HB7.out HB9.out).setCell (Nat.le_succ _) _).setCell (Nat.le_succ _) _).setCell (Nat.le_succ _) _
abbrev PV:=Value×List Int
def noP:PV:=(undef,[])
def qe(ps:List PV):Nat->Nat
 |0=>0
 |j+1=>qe ps j+(ps.getD j noP).2.length
theorem QM(ps:List PV):∀{i j:Nat},i<=j->qe ps i<=qe ps j
 |i,0,h=>by
  have e:i=0:=Nat.le_zero.1 h;subst e;exact nR _
 |i,j+1,h=>by
  by_cases e:i=j+1
  ·rw[e];exact nR _
  ·exact bK (QM ps (i:=i) (j:=j) (by omega)) (Nat.le_add_right _ _)
theorem UF{ps:List PV}{m:Nat}(h:∀p∈ps,p.2.length<=m):∀j,qe ps j<=j*m
 |0=>nZ _
 |j+1=>by
  have h1:=UF h j
  have h2:(ps.getD j noP).2.length<=m:=by
   rw[gD];cases e:ps[j]? with
   |none=>exact nZ _
   |some p=>exact h p (List.mem_of_getElem? e)
  rw[Nat.succ_mul];exact Nat.add_le_add h1 h2
theorem qAA(w:World)(B:Nat)(v:Value)(l:List Int)(k:Int)(h:w.ownsRow B 3 1 v l.length (l.map (Value.int .i64)))(hl:l.length<=1099511627776)(hk:0<=k)(hk':k<=1099511627776):
 Cl 38 #[v,.int .i64 k] w fun e w'=>e=.returned (.int .i64 (k+l.length))/\(∀b,some b≠v.ownBlock->w'.heap[b]?=w.heap[b]?)/\w'.heap.size=w.heap.size/\Below B w w'/\
  ∀W,(∀g,v.ownBlock=some g->W.heap[g]?=w'.heap[g]?)->w'.heap.size<=W.heap.size->Cl 41 #[v,.int .i64 k] W fun e w''=>e=.returned (.int .i64 (k+l.length))/\w''=W:=by
 rcases h.2 with ⟨rfl,h2⟩|⟨g,cap,cur,rfl,hb',hc,hr⟩
 ·rw[h2];refine(Vl w none 0 k).mono ?_;rintro e w' ⟨rfl,rfl⟩;refine⟨by simp,fun b _=>rfl,rfl,bI _ _,fun W _ _=>?_⟩;have:=Vm W none 0 k;simpa using this
 ·refine(Vj w g cap l k (qBr h) hl hk hk').mono ?_;rintro e w' ⟨rfl,ho,hog⟩;exact⟨rfl,fun b hb=>hog.block b (fun e=>hb (by rw[e];rfl)),hog.size,hog.below hb',fun W hW hs=>Vk W g cap l.length k (ho.move (hW g rfl) hs) hl hk hk'⟩
structure GB(w:World)(B:Nat)(ps:List PV):Prop where
 own:∀j,j < ps.length->w.ownsRow B 3 1 (ps.getD j noP).1 (ps.getD j noP).2.length ((ps.getD j noP).2.map (Value.int .i64))
 ap:∀i j,i < j->j < ps.length->ApW (ps.getD i noP).1 (ps.getD j noP).1
 few:qe ps ps.length<=2000000000
structure MkB(w wr:World)(B:Nat)(ps:List PV)(k:Nat)(j:Nat):Prop where
 size:wr.heap.size=w.heap.size
 bel:Below B w wr
 far:∀q,(∀i,i < j->some q≠(ps.getD i noP).1.ownBlock)->wr.heap[q]?=w.heap[q]?
 held:∀i,i < j->∀W,(∀q,(ps.getD i noP).1.ownBlock=some q->W.heap[q]?=wr.heap[q]?)->wr.heap.size<=W.heap.size->Cl 41 #[(ps.getD i noP).1,.int .i64 ((k+qe ps i:Nat):Int)] W fun e w''=>e=.returned (.int .i64 ((k+qe ps (i+1):Nat):Int))/\w''=W
section
variable {w wr:World} {B:Nat} {ps:List PV} {k j:Nat}
theorem MkB.start:MkB w w B ps k 0:=⟨rfl,bI _ _,fun _ _=>rfl,fun i hi=>by omega⟩
theorem MkB.own(h:MkB w wr B ps k j)(hG:GB w B ps)(hj:j < ps.length):wr.ownsRow B 3 1 (ps.getD j noP).1 (ps.getD j noP).2.length ((ps.getD j noP).2.map (Value.int .i64)):=
 qC (hG.own j hj) fun q hq=>h.far q fun i hi e2=>hG.ap i j hi hj q e2.symm hq
theorem MkB.other(h:MkB w wr B ps k j)(hG:GB w B ps)(hj:j<=ps.length){ty:TypeId}(ht:∃cur,w.heap[g]?=some (.cells cur ty (0,0)))(hne:3≠ty):wr.heap[g]?=w.heap[g]?:=
 h.far g fun i hi=>own_ne (hG.own i (by omega)) ht hne
theorem qAB(h:MkB w wr B ps k j)(hG:GB w B ps)(hj:j < ps.length)(hk:k<=8388608):
 Cl 38 #[(ps.getD j noP).1,.int .i64 ((k+qe ps j:Nat):Int)] wr fun e w'=>e=.returned (.int .i64 ((k+qe ps (j+1):Nat):Int))/\MkB w w' B ps k (j+1):=by
 have hf:=hG.few;have h1:=QM ps (show j+1<=ps.length from hj);have h2:qe ps (j+1)=qe ps j+(ps.getD j noP).2.length:=rfl;have hR:((k+qe ps j:Nat):Int)+((ps.getD j noP).2.length:Int)=((k+qe ps (j+1):Nat):Int):=by omega
 refine(qAA wr B _ _ ((k+qe ps j:Nat):Int) (h.own hG hj) (by omega) (by omega) (by omega)).mono ?_;rintro e w2 ⟨rfl,g1,g2,g3,g4⟩;rw[hR]at g4;refine⟨qO hR,g2.trans h.size,h.bel.trans g3,fun q hq=>(g1 q (hq j (by omega))).trans (h.far q fun i hi=>hq i (by omega)),fun i hi W hW hs=>?_⟩;by_cases e:i=j
 ·subst e;exact g4 W hW hs
 ·exact h.held i (by omega) W (fun q hq=>(hW q hq).trans (g1 q (fun e2=>hG.ap i j (by omega) hj q hq e2.symm))) (by omega)
end
theorem qEJ{ps:List PV}{k j:Nat}(h:MkB w wr B ps k j)(hG:GB w B ps)(a:Option Addr)(n cap:Nat)(hjn:j+n<=ps.length)(hk:k<=8388608)(hn:n<=1048576)
 (hc:∀i,i < n->∃g,a=some ⟨g,0,none⟩/\∀wr' j',j'<=ps.length->MkB w wr' B ps k j'->wr'.cell? ⟨g,i,none⟩=some (ps.getD (j+i) noP).1):
 Cl 39 #[.slice a n cap,.int .i64 ((k+qe ps j:Nat):Int)] wr fun e w'=>e=.returned (.int .i64 ((k+qe ps (j+n):Nat):Int))/\MkB w w' B ps k (j+n):=by
 have HM:=hid h;have HC:=hid hc;have HK:Hid (∀wr' i,i < n->MkB w wr' B ps k (j+i)->Cl 38 #[(ps.getD (j+i) noP).1,.int .i64 ((k+qe ps (j+i):Nat):Int)] wr' fun e w'=>e=.returned (.int .i64 ((k+qe ps (j+(i+1)):Nat):Int))/\MkB w w' B ps k (j+(i+1))):=hid fun wr' i hi hm=>qAB hm hG (by omega) hk
 have HS:Hid (∀i,i < n->∃a n cap,(ps.getD (j+i) noP).1=.slice a n cap):=hid fun i hi=>by
  obtain⟨a,c,e⟩:=qT (hG.own (j+i) (by omega));exact⟨a,_,c,e⟩
 have HL:Hid (∀i,i<=n->k+qe ps (j+i)<=1099511627776):=hid fun i hi=>by
  have h1:=QM ps (show j+i<=ps.length by omega);have:=hG.few;omega
 clear h hc hG hk;go_enter Tryz.func39,Tryz.ntmps39
 go_wp2;go_loopw [1,5] (fun u t wr'=>∃i:Nat,i<=n/\t=.int .i64 i/\∃c:Nat,u=.int .i64 (c:Int)/\Hid (c=k+qe ps (j+i)/\MkB w wr' B ps k (j+i))) (fun _ t _=>n - (intOf t).toNat)
 case atStart=>exact⟨0,nZ _,rfl,_,rfl,hid ⟨rfl,HM.out⟩⟩
 case round=>
  clear HM;obtain⟨i,hi,rfl,c,rfl,hok⟩:=hrel;by_cases hin:i < n
  ·have i1:(i:Int) < (n:Int):=by omega
   obtain⟨g,rfl,hcell⟩:=HC.out i hin;have c1:=hcell wr (j+i) (by omega) hok.out.2;have K:=hid (HK.out wr i hin hok.out.2);rw[<-hok.out.1]at K;obtain⟨au,nu,cu,eu⟩:=HS.out i hin;rw[eu]at c1 K;clear hok hcell eu;go_wp2_with fail
   refine K.out.mono ?_;rintro e w2 ⟨rfl,hm⟩;have HN:=hid hm;clear hm K c1;go_wp2_with fail
   go_roundw
   case rel=>exact⟨i+1,by omega,by go_num,_,rfl,hid ⟨rfl,HN.out⟩⟩
   case measure=>simp[intOf];omega
  ·obtain rfl:i=n:=by omega
   have i1:¬((i:Int) < (i:Int)):=by omega
   go_wp2;go_ret;exact⟨qO (by have:=hok.out.1;omega),hok.out.2⟩
theorem qEK(W:World)(ps:List PV)(k j:Nat)(a:Option Addr)(n cap:Nat)(hn:n<=1048576)
 (hc:∀i,i < n->∃g,a=some ⟨g,0,none⟩/\W.cell? ⟨g,i,none⟩=some (ps.getD (j+i) noP).1)
 (hs:∀i,i < n->∃a n cap,(ps.getD (j+i) noP).1=.slice a n cap)
 (hh:∀i,i < n->Cl 41 #[(ps.getD (j+i) noP).1,.int .i64 ((k+qe ps (j+i):Nat):Int)] W fun e w''=>e=.returned (.int .i64 ((k+qe ps (j+(i+1)):Nat):Int))/\w''=W):
 Cl 42 #[.slice a n cap,.int .i64 ((k+qe ps j:Nat):Int)] W fun e w''=>e=.returned (.int .i64 ((k+qe ps (j+n):Nat):Int))/\w''=W:=by
 have HC:=hid hc;have HS:=hid hs;have HH:=hid hh;clear hc hs hh;go_enter Tryz.func42,Tryz.ntmps42
 go_wp2;go_loop [1,5] (fun u t=>∃i:Nat,i<=n/\t=.int .i64 i/\∃c:Nat,u=.int .i64 (c:Int)/\Hid (c=k+qe ps (j+i))) (fun _ t=>n - (intOf t).toNat)
 case atStart=>exact⟨0,nZ _,rfl,_,rfl,hid rfl⟩
 case round=>
  obtain⟨i,hi,rfl,c,rfl,hok⟩:=hrel;by_cases hin:i < n
  ·have i1:(i:Int) < (n:Int):=by omega
   obtain⟨g,rfl,c1⟩:=HC.out i hin;have K:=hid (HH.out i hin);rw[<-hok.out]at K;obtain⟨au,nu,cu,eu⟩:=HS.out i hin;rw[eu]at c1 K;obtain⟨z,hz⟩:∃z:Nat,z=k+qe ps (j+(i+1)):=⟨_,rfl⟩;rw[<-hz]at K;have HZ:=hid hz;clear hok eu hz;have g1:¬((z:Int) < 0):=by omega
   go_wp2_with fail
   refine K.out.mono ?_;rintro e w2 ⟨rfl,hw2⟩;subst w2;go_wp2_with fail
   go_round
   case rel=>exact⟨i+1,by omega,by go_num,z,rfl,hid HZ.out⟩
   case measure=>simp[intOf];omega
  ·obtain rfl:i=n:=by omega
   have i1:¬((i:Int) < (i:Int)):=by omega
   go_wp2;go_ret;exact⟨qO (by have:=hok.out;omega),rfl⟩
end Go.Proofs.YtjbpgdpciinlcaaGreat
