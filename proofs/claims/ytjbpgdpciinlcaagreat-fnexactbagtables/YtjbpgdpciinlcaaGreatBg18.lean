import Derived.Test.YtjbpgdpciinlcaaGreatBg17
set_option maxHeartbeats 40000000
set_option maxRecDepth 1000000
namespace Go.Proofs.YtjbpgdpciinlcaaGreat
open Go.RowKit
variable {o p:List Int}{us:List Value}{B b i j k:Nat}{v:Value}{W W':World}
theorem zy{w w':World}{a:Addr}(hb:Bl w w')(h:w.cell? a=some v):w'.cell? a=some v:=(hb.cell (bL w _ h)).trans h
structure TbV where
 vs:List Int
 rows:List (List Int)
 ws:List Int
def qA:TbV:=⟨[],[],[]⟩
structure TvS(t:TbV):Prop where
 vs:t.vs.length<=1099511627776
 rows:qQ t.rows
 ws:t.ws.length<=1099511627776
def TabAt(W:World)(b o:Nat)(t:TbV):Prop:=∃v0 v1 v2,W.cell? ⟨b,o,none⟩=some v0/\W.cell? ⟨b,o+1,none⟩=some v1/\W.cell? ⟨b,o+2,none⟩=some v2/\IT W v0 v1 v2 t.vs t.rows t.ws
theorem TabAt.below{o:Nat}{t:TbV}(h:TabAt W b o t)(hb:Bl W W'):TabAt W' b o t:=by
 obtain⟨v0,v1,v2,c0,c1,c2,hi⟩:=h;exact⟨v0,v1,v2,zy hb c0,zy hb c1,zy hb c2,hi.below hb⟩
def ITs(W:World)(v:Value)(tl:List TbV):Prop:=∃a cap,v=.slice a tl.length cap/\(tl.length=0∨∃b o,a=some ⟨b,o,none⟩/\∀j,j < tl.length->TabAt W b (o+j*3) (tl.getD j qA))
theorem ITs.below{tl:List TbV}(h:ITs W v tl)(hb:Bl W W'):ITs W' v tl:=by
 obtain⟨a,cap,e,h⟩:=h;refine⟨a,cap,e,?_⟩;rcases h with h|⟨b,o,ea,h⟩
 ·exact Or.inl h
 ·exact Or.inr ⟨b,o,ea,fun j hj=>(h j hj).below hb⟩
theorem qEe{α:Type}(c:α->List Value)(hc:∀x,(c x).length=3)(ss:List α):∀t,(ss.flatMap c)[t]?=(ss[t / 3]?).bind fun x=>(c x)[t % 3]?:=by
 induction ss with
 |nil=>intro t;simp
 |cons x r ih=>
  intro t;rw[List.flatMap_cons];by_cases h:t < 3
  ·rw[aL (by rw[hc];omega),Nat.div_eq_of_lt h,Nat.mod_eq_of_lt h];rfl
  ·obtain⟨s,rfl⟩:∃s,t=s+3:=⟨t - 3,by omega⟩;rw[bN (by rw[hc];omega)];have e:s+3 - (c x).length=s:=by rw[hc];omega
   rw[e,ih s,Nat.add_mod_right,Nat.add_div_right _ (by decide)];rfl
theorem qAW{α:Type}(c:α->List Value)(hc:∀x,(c x).length=3)(d:α){ty:TypeId}{tl:List α}(h:W.ownsRow B ty 3 v tl.length (tl.flatMap c)):
 ∃a cap,v=.slice a tl.length cap/\(tl.length=0∨∃g,a=some ⟨g,0,none⟩/\(∃cur,W.heap[g]?=some (.cells cur ty (0,0)))/\∀j q,j < tl.length->q < 3->W.cell? ⟨g,j*3+q,none⟩=(c (tl.getD j d))[q]?):=by
 rcases h.2 with ⟨rfl,hn⟩|⟨g,cap,cur,rfl,hb',hh,hn,-,-,ht⟩
 ·exact⟨none,0,by rw[hn],Or.inl hn⟩
 ·refine⟨_,cap,rfl,Or.inr ⟨g,rfl,⟨cur,hh⟩,fun j q hj hq=>?_⟩⟩;rw[cell_of_row _ _ _ _ _ _ hh,<-Array.getElem?_toList,<-List.getElem?_take_of_lt (by omega:j*3+q < tl.length*3),ht,qEe c hc,show(j*3+q) / 3=j by omega,show(j*3+q) % 3=q by omega,gD,gE hj];rfl
theorem Um{w5:World}{o b' o':Nat}{v0 v1 v2 u0 u1 u2:Value}
 (h0:w5.cell? ⟨b,o,none⟩=some v0) (h1:w5.cell? ⟨b,o+1,none⟩=some v1) (h2:w5.cell? ⟨b,o+2,none⟩=some v2)
 (k0:w5.cell? ⟨b',o',none⟩=some u0) (k1:w5.cell? ⟨b',o'+1,none⟩=some u1) (k2:w5.cell? ⟨b',o'+2,none⟩=some u2) (hb:Bl w5 W):
 W.cell? ⟨b,o,none⟩=some v0/\W.cell? ⟨b,o+1,none⟩=some v1/\W.cell? ⟨b,o+2,none⟩=some v2/\W.cell? ⟨b',o',none⟩=some u0/\W.cell? ⟨b',o'+1,none⟩=some u1/\W.cell? ⟨b',o'+2,none⟩=some u2/\Bl w5 W:=
 ⟨zy hb h0,zy hb h1,zy hb h2,zy hb k0,zy hb k1,zy hb k2,hb⟩
theorem kE(w:World)(v u:Value)(ds:List TbV)(h:ITs w v ds)(h':ITs w u ds)(hl1:ds.length<=1048576)(hr:∀j,j < ds.length->TvS (ds.getD j qA)):
 Cl 10 #[v,u] w fun e w'=>e=.returned (.bool true)/\Bl w w':=by
 obtain⟨a,cap,rfl,hc⟩:=h;obtain⟨a',cap',rfl,hc'⟩:=h';have HR:=hid hr;obtain⟨n,hn⟩:∃n,n=ds.length:=⟨_,rfl⟩;rw[<-hn]at hc hc' hl1 HR ⊢;have HC:=hid hc;have HC':=hid hc';clear hc hc' hn hr;have hne:((n:Int) != (n:Int))=false:=by simp
 go_enter Tryz.func10,Tryz.ntmps10
 go_wp2;go_loopw [5] (fun t wr=>∃j:Nat,j<=n/\t=.int .i64 j/\Hid (Bl w wr)) (fun t _=>n - (intOf t).toNat)
 case atStart=>exact⟨0,nZ _,rfl,hid (bI _ _)⟩
 case round=>
  obtain⟨j,hj,rfl,hB⟩:=hrel;by_cases hjn:j < n
  ·have i1:(j:Int) < (n:Int):=by omega
   rcases HC.out with h0|⟨b,o,rfl,hrel⟩
   ·omega
   ·rcases HC'.out with h0|⟨b',o',rfl,hrel'⟩
    ·omega
    ·obtain⟨v0,v1,v2,c0,c1,c2,hir⟩:=(hrel j hjn).below hB.out;obtain⟨u0,u1,u2,d0,d1,d2,hir'⟩:=(hrel' j hjn).below hB.out;have hok:=HR.out j hjn
     have HW:Hid (∀W,(W.cell? ⟨b,o+j*3,none⟩=some v0/\W.cell? ⟨b,o+j*3+1,none⟩=some v1/\W.cell? ⟨b,o+j*3+2,none⟩=some v2/\W.cell? ⟨b',o'+j*3,none⟩=some u0/\W.cell? ⟨b',o'+j*3+1,none⟩=some u1/\W.cell? ⟨b',o'+j*3+2,none⟩=some u2/\Bl wr W)->
      Cl 33 #[.agg #[v0,v1,v2],.agg #[u0,u1,u2]] W fun e w'=>e=.returned (.bool true)/\Bl W w'):=hid (fun W hW=>
       Un W v0 v1 v2 u0 u1 u2 _ _ _ (hir.below hW.2.2.2.2.2.2) (hir'.below hW.2.2.2.2.2.2) hok.vs hok.rows hok.ws)
     have HBW:Hid (∀W,(W.cell? ⟨b,o+j*3,none⟩=some v0/\W.cell? ⟨b,o+j*3+1,none⟩=some v1/\W.cell? ⟨b,o+j*3+2,none⟩=some v2/\W.cell? ⟨b',o'+j*3,none⟩=some u0/\W.cell? ⟨b',o'+j*3+1,none⟩=some u1/\W.cell? ⟨b',o'+j*3+2,none⟩=some u2/\Bl wr W)->Bl wr W):=hid (fun W hW=>hW.2.2.2.2.2.2);obtain⟨a0,k0,rfl,-⟩:=hir.vs;obtain⟨a1,k1,rfl,-⟩:=hir.rows;obtain⟨a2,k2,rfl,-⟩:=hir.ws;obtain⟨a3,k3,rfl,-⟩:=hir'.vs;obtain⟨a4,k4,rfl,-⟩:=hir'.rows;obtain⟨a5,k5,rfl,-⟩:=hir'.ws;clear hir hir' hok hrel hrel';generalize (ds.getD j qA).vs.length=n0 at *;generalize (ds.getD j qA).rows.length=n1 at *;generalize (ds.getD j qA).ws.length=n2 at *;go_wp2_with fail
     go_region_held3 (fun W=>W.cell? ⟨b,o+j*3,none⟩=some (.slice a0 n0 k0)/\W.cell? ⟨b,o+j*3+1,none⟩=some (.slice a1 n1 k1)/\W.cell? ⟨b,o+j*3+2,none⟩=some (.slice a2 n2 k2)/\W.cell? ⟨b',o'+j*3,none⟩=some (.slice a3 n0 k3)/\W.cell? ⟨b',o'+j*3+1,none⟩=some (.slice a4 n1 k4)/\W.cell? ⟨b',o'+j*3+2,none⟩=some (.slice a5 n2 k5)/\Bl wr W)
      (first|exact Um c0 c1 c2 d0 d1 d2 (bI _ _).drew|exact Um c0 c1 c2 d0 d1 d2 (bt (bI _ _).drew hb)|(refine Um c0 c1 c2 d0 d1 d2 (bt (HBW.out _ ?_) hb);assumption))
      (first|(go_at_call 33;refine(HW.out _ ?_).mono ?_;assumption;rintro e w' ⟨rfl,hb⟩))
     go_wp2;go_roundw
     case rel=>exact⟨j+1,by omega,by go_num,hid (bt hB.out (HBW.out _ (by assumption)))⟩
     case measure=>simp[intOf];omega
  ·obtain rfl:j=n:=by omega
   have i1:¬((j:Int) < (j:Int)):=by omega
   go_wp2;go_ret;exact⟨rfl,hB.out⟩
def sdT(o:List Int)(t:TbV):SdM:=⟨shr o t.vs,srt (t.rows.map (qK t.vs (shr o t.vs)))⟩
theorem yc(o:List Int)(t:TbV):(sdT o t).Ok:=by
 refine⟨(yk _ _ (nR _)).1,fun r hr=>?_⟩;obtain⟨q,-,rfl⟩:=List.mem_map.1 (((yk _ (t.rows.map (qK t.vs (shr o t.vs))) (nR _)).2 r).1 hr);exact uP _ _ _
structure TvJ(t:TbV):Prop where
 vs:t.vs.length<=6
 n:t.rows.length<=10000
 len:∀r∈t.rows,r.length=t.vs.length
structure SdR where
 v0:Value
 v1:Value
 s:SdM
def scs(r:SdR):List Value:=[r.v0,r.v1]
def El(v:Value)(W:World)(r:SdR):Prop:=∀W',(∀k,k < W.heap.size->v.ownBlock≠some k->W'.heap[k]?=W.heap[k]?)->IS W' r.v0 r.s.vars/\ISSc W' r.v1 r.s.rows
def ElS(B:Nat)(W:World)(r:SdR):Prop:=∀W',(∀k,B<=k->k < W.heap.size->W'.heap[k]?=W.heap[k]?)->IS W' r.v0 r.s.vars/\ISSc W' r.v1 r.s.rows
structure SDs(W:World)(B:Nat)(v:Value)(sl:List SdR):Prop where
 own:W.ownsRow B 94 2 v sl.length (sl.flatMap scs)
 el:∀r∈sl,El v W r
theorem SDs.push{wr w3:World}{g c:Nat}{sl:List SdR}{r:SdR}{o:Obj}(h:SDs wr B v sl)(hb:Bl wr W)(he:ElS wr.heap.size W r)(hg:(W.alloc o).grownBy w3 v.ownBlock)(hown:w3.ownsRow B 94 2 (.slice (some ⟨g,0,none⟩) (sl.length+1) c) (sl.length+1) (sl.flatMap scs++[r.v0,r.v1]))(hat:v.ownBlock=some g∨g=(W.alloc o).heap.size):
 SDs w3 B (.slice (some ⟨g,0,none⟩) (sl.length+1) c) (sl++[r]):=by
 have hs:=hb.size;have hs3:=hg.size;rw[World.size_alloc]at hs3 hat;refine⟨by rw[lA,lS,List.flatMap_append];simpa[scs]using hown,fun q hq W' hW'=>?_⟩
 have key:∀k,k < W.heap.size->v.ownBlock≠some k->g≠k->W'.heap[k]?=W.heap[k]?:=fun k hk h1 h2=>by
  rw[hW' k (by omega) (fun e=>h2 (by simpa[Value.ownBlock]using e)),hg.block k (by rw[World.size_alloc];omega) (fun e=>h1 e.symm)];exact Below.heap_alloc _ _ _ hk
 have hvl:∀k,v.ownBlock=some k->k < wr.heap.size:=fun k hk=>(h.own.lt k hk).2;rcases List.mem_append.1 hq with hq|hq
 ·refine h.el q hq W' fun k hk h1=>?_;rw[key k (by omega) h1 (fun e=>?_)]
  ·exact hb.block k hk
  ·subst e;rcases hat with h2|h2
   ·exact h1 h2
   ·omega
 ·rw[List.mem_singleton]at hq;subst hq;refine he W' fun k h1 h2=>key k h2 (fun e=>?_) (fun e=>?_)
  ·have:=hvl k e;omega
  ·subst e;rcases hat with h3|h3
   ·have:=hvl _ h3;omega
   ·omega
theorem SDs.below{sl:List SdR}(h:SDs W B v sl)(hb:Bl W W'):SDs W' B v sl:=by
 refine⟨qB h.own hb,fun r hr X hX=>h.el r hr X fun k hk hn=>?_⟩;rw[hX k (bM hk hb.size) hn];exact hb.block k hk
theorem qEc{α:Type}(c:α->List Value)(hc:∀x,(c x).length=2)(ss:List α):∀t,(ss.flatMap c)[t]?=(ss[t / 2]?).bind fun x=>(c x)[t % 2]?:=by
 induction ss with
 |nil=>intro t;simp
 |cons x r ih=>
  intro t;rw[List.flatMap_cons];by_cases h:t < 2
  ·rw[aL (by rw[hc];omega),Nat.div_eq_of_lt h,Nat.mod_eq_of_lt h];rfl
  ·obtain⟨s,rfl⟩:∃s,t=s+2:=⟨t - 2,by omega⟩;rw[bN (by rw[hc];omega)];have e:s+2 - (c x).length=s:=by rw[hc];omega
   rw[e,ih s,Nat.add_mod_right,Nat.add_div_right _ (by decide)];rfl
theorem SDs.isds{sl:List SdR}(h:SDs W B v sl):ISds W v (sl.map SdR.s):=by
 have hel:∀r∈sl,IS W r.v0 r.s.vars/\ISSc W r.v1 r.s.rows:=fun r hr=>h.el r hr W fun _ _ _=>rfl;rcases h.own.2 with ⟨rfl,hn⟩|⟨g,cap,cur,rfl,hb',hh,hn,-,-,ht⟩
 ·exact⟨none,0,by rw[lM,hn],Or.inl (by rw[lM];exact hn)⟩
 ·refine⟨_,cap,by rw[lM],Or.inr ⟨g,0,rfl,fun j hj=>?_⟩⟩;rw[lM]at hj;obtain⟨h1,h2⟩:=hel sl[j] (gM hj);have eg:(sl.map SdR.s).getD j qV=sl[j].s:=by rw[gD,bJ,gE hj];rfl
  have hc:∀q,q < 2->W.cell? ⟨g,j*2+q,none⟩=(scs sl[j])[q]?:=fun q hq=>by
   rw[cell_of_row _ _ _ _ _ _ hh,<-Array.getElem?_toList,<-List.getElem?_take_of_lt (by omega:j*2+q < sl.length*2),ht,qEc scs (fun _=>rfl),show(j*2+q) / 2=j by omega,show(j*2+q) % 2=q by omega,gE hj];rfl
  rw[eg,Nat.zero_add];obtain⟨a0,c0,e0,h1'⟩:=h1;obtain⟨a1,c1,e1,h2'⟩:=h2;refine⟨a0,c0,a1,c1,?_,?_,⟨a0,c0,rfl,h1'⟩,⟨a1,c1,rfl,h2'⟩⟩
  ·rw[<-e0];exact hc 0 (by omega)
  ·rw[<-e1];exact hc 1 (by omega)
theorem Tryz.infoSd:(Tryz.prog.info? 94).map (fun i=>(i.zero,i.size,i.bytes))=some (some (.agg #[.slice none 0 0,.slice none 0 0]),2,48):=by kernel_rfl
theorem K7(w:World)(x y:Value)(t:TypeId):∀j u,[x,y][j]?=some u->(w.alloc (.cells #[x,y] t)).cell? ((⟨w.heap.size,0,none⟩:Addr).add j)=some u:=by
 intro j u hj;match j,hj with
 |0,hj=>simp at hj;subst hj;simp[Addr.add]
 |1,hj=>simp at hj;subst hj;simp[Addr.add]
theorem qEG{W0:World}{v0 v1:Value}{s:SdM}(h0:W.ownsRow B 3 1 v0 s.vars.length (s.vars.map (Value.int .i64)))(hb:Bl W0 W)(h1:RSx (fun u=>∀k,u.ownBlock=some k->B<=k) W0 W v1 us s.rows)(hv:∀k,v1.ownBlock=some k->B<=k):ElS B W ⟨v0,v1,s⟩:=fun W' hW'=>by
 refine⟨qW (qC h0 fun g hg=>hW' g (h0.lt g hg).1 (h0.lt g hg).2),?_⟩;obtain⟨⟨a,cap,rfl,hc,hq⟩,-,hel⟩:=h1;refine⟨a,cap,rfl,?_⟩;rcases hq with hq|⟨b,o,rfl,hq⟩
 ·exact Or.inl hq
 ·refine Or.inr ⟨b,o,rfl,fun j hj=>?_⟩;obtain⟨⟨⟨a2,c2,e2,h2⟩,h3⟩,h4⟩:=hel j hj;refine⟨us.getD j undef,?_,⟨a2,c2,e2,?_⟩,h3⟩
  ·exact(bE (w:=W) (a:=⟨b,o+j,none⟩) (hW' b (hv b rfl) (bL W _ (hq j hj)))).trans (hq j hj)
  ·rcases h2 with h2|⟨b2,o2,rfl,h2⟩
   ·exact Or.inl h2
   ·refine Or.inr ⟨b2,o2,rfl,fun i hi=>?_⟩;have h5:W.cell? ⟨b2,o2+i,none⟩=some (.int .i64 (s.rows.getD j []|>.getD i 0)):=(hb.cell (p:=⟨b2,o2+i,none⟩) (bL W0 _ (h2 i hi))).trans (h2 i hi);exact(bE (w:=W) (a:=⟨b2,o2+i,none⟩) (hW' b2 (h4 b2 (by rw[e2];rfl)) (bL W _ h5))).trans h5
theorem RQ.rsx{ls:List (List Int)}(h:RQ W B v us ls):RSx (fun u=>∀k,u.ownBlock=some k->B<=k) W W v us ls:=
 ⟨h.rs.sl,h.rs.len,fun i hi=>⟨h.rs.each i hi,fun k hk=>((h.each i hi).lt k hk).1⟩⟩
theorem Ye(w:World)(vt vo:Value)(tl:List TbV)(o:List Int)(h:ITs w vt tl)(ho:IS w vo o)(hl:tl.length<=1000)(hol:o.length<=1000)(hok:∀t∈tl,TvJ t):
 Cl 49 #[vt,vo] w fun e w'=>∃v,e=.returned v/\ISds w' v (tl.map (sdT o))/\Bl w w':=by
 obtain⟨iS,hj,hy0,hy1,hy2⟩:=info_parts Tryz.infoIS;obtain⟨iD,hd,hd0,hd1,hd2⟩:=info_parts Tryz.infoSd;obtain⟨at',ct,rfl,hc⟩:=h;have HO:=hid ho;obtain⟨ao,co,rfl,-⟩:=ho;have HOK:Hid (∀j,j < tl.length->TvJ (tl.getD j qA)):=hid fun j hj=>hok _ (by rw[gD,gE hj];exact gM _)
 have HT1:Hid (∀j,j < tl.length->tl.take (j+1)=tl.take j++[tl.getD j qA]):=hid fun j hj=>by
  rw[tA,gE hj,gD,gE hj];rfl
 have HTn:Hid (tl.take tl.length=tl):=hid (tL ..);have HTl:Hid (∀j,j<=tl.length->(tl.take j).length=j):=hid fun j hj=>by rw[bQ];omega
 have HC:Hid (∀W,Bl w W->∀j,j < tl.length->∃b oo,at'=some ⟨b,oo,none⟩/\TabAt W b (oo+j*3) (tl.getD j qA)):=hid fun W hW j hj=>by
  rcases hc with h0|⟨b,oo,rfl,h⟩
  ·omega
  ·exact⟨b,oo,rfl,(h j hj).below hW⟩
 obtain⟨n,hn⟩:∃n,n=tl.length:=⟨_,rfl⟩;rw[<-hn]at hl HOK HT1 HTn HTl HC ⊢;clear hn hc hok;obtain⟨no,hno⟩:∃no,no=o.length:=⟨_,rfl⟩;have HNO:=hid hno;rw[<-hno]at hol ⊢;rw[<-hno]at HO;clear hno;obtain⟨W1,hW1⟩:∃W1,W1=w.alloc (.cells #[] 94):=⟨_,rfl⟩
 have HS1:Hid (Bl w W1/\SDs W1 w.heap.size (.slice (some ⟨w.heap.size,0,none⟩) 0 0) []):=hid (by
  rw[hW1];exact⟨(bI _ _).alloc (nR _) _,oM w #[] 0 (nR _) (by decide) rfl,fun r hr=>by cases hr⟩)
 go_enter Tryz.func49,Tryz.ntmps49
 go_upto_region 2 with fail
 rw[<-hW1];clear hW1;go_wp2_with fail
 go_loopw [5,15] (fun u t wr=>∃(j:Nat) (vs:Value),j<=n/\t=.int .i64 j/\vs=u/\Hid (∃sl:List SdR,sl.map SdR.s=(tl.take j).map (sdT o)/\Bl w wr/\SDs wr w.heap.size vs sl)) (fun _ t _=>n - (intOf t).toNat)
 case atStart=>exact⟨0,_,nZ _,rfl,rfl,hid ⟨[],rfl,HS1.out.1,HS1.out.2⟩⟩
 case round=>
  clear HS1;obtain⟨j,vs,hjn,rfl,rfl,HT⟩:=hrel;obtain⟨sl,hsl,hB,hS⟩:=HT.out;have HSL:=hid hsl;have HB:=hid hB;have HS:=hid hS;clear HT hsl hB hS;by_cases hlt:j < n
  ·have i1:(j:Int) < (n:Int):=by omega
   obtain⟨b,oo,ea,v0,v1,v2,c0,c1,c2,hI⟩:=HC.out wr HB.out j hlt;subst ea;have hsll:sl.length=j:=by have:=congrArg List.length HSL.out;rw[lM,lM,HTl.out j hjn]at this;exact this
   have HTj:=hid (HT1.out j hlt);have HJ:=hid (HOK.out j hlt);generalize tl.getD j qA=tb at *;obtain⟨W2,hW2⟩:∃W2,W2=wr.alloc (.cells #[v0,v1,v2] 53):=⟨_,rfl⟩;have hB2:Bl wr W2:=by rw[hW2];exact(bI _ _).alloc (nR _) _
   have HX2:Hid (TX W2 wr.heap.size v0 v1 v2):=hid (by rw[hW2];exact TX.made _ _ _ _);have HI2:=hid (hI.below hB2);have HB2:=hid hB2;obtain⟨a0,k0,e0,-⟩:=hI.vs;obtain⟨a1,k1,e1,-⟩:=hI.rows;obtain⟨a2,k2,e2,-⟩:=hI.ws;subst e0 e1 e2;have KSh:=hid (ku W2 (.slice ao no co) _ o tb.vs (HO.out.below (bt HB.out hB2)) (by have:=HNO.out;omega) HI2.out.vs (by have:=HJ.out.vs;omega));have d0:=HX2.out.c0;have hnr:=HJ.out.n;have hvl:=HJ.out.vs;have HSH:Hid ((shr o tb.vs).length<=no):=hid (by rw[HNO.out];exact y8 _ _);obtain⟨sv,hsv⟩:∃sv,sv=shr o tb.vs:=⟨_,rfl⟩;have HSV:=hid hsv;rw[<-hsv]at KSh HSH;have hsl0:=HSH.out;clear hsv hB2 hI HC HOK HT1;go_upto_region 5 with fail
   rw[<-hW2];clear hW2 c0 c1 c2;go_wp2_with fail
   refine KSh.out.mono ?_;rintro e w3 ⟨g3,c3,rfl,ho3,hb3⟩;have HB3:=hid (bt HB2.out hb3);have HX3:=hid (HX2.out.below hb3);have HI3:=hid (HI2.out.below hb3);have HO3:=hid (qF ho3 HB2.out.size);clear ho3 hb3 KSh d0 HX2 HI2 HB2;obtain⟨W4,hW4⟩:∃W4,W4=w3.alloc (.cells #[] 24):=⟨_,rfl⟩
   have HS4:Hid (Bl w3 W4/\RQ W4 w3.heap.size (.slice (some ⟨w3.heap.size,0,none⟩) 0 0) [] []):=hid (by
    rw[hW4];exact⟨(bI _ _).alloc (nR _) _,oM w3 #[] 0 (nR _) (by decide) rfl,rfl,fun i hi=>by simp at hi,fun i j _ hj=>by simp at hj⟩)
   have KV:Hid (∀W u i,Bl w3 W->i < tb.rows.length->IS W u (tb.rows.getD i [])->Cl 47 #[.agg #[.slice a0 tb.vs.length k0,.slice a1 tb.rows.length k1,.slice a2 tb.ws.length k2],u,.slice (some ⟨g3,0,none⟩) sv.length c3] W fun e w'=>∃v,e=.returned v/\w'.ownsRow W.heap.size 3 1 v (qK tb.vs sv (tb.rows.getD i [])).length ((qK tb.vs sv (tb.rows.getD i [])).map (Value.int .i64))/\Bl W w'):=hid fun W u i hW hi hu=>
    jL W _ _ _ u _ tb.vs (tb.rows.getD i []) sv tb.rows.length tb.ws.length ⟨_,_,rfl⟩ ⟨_,_,rfl⟩ (HI3.out.below hW).vs hu (qW (qB HO3.out hW)) (by omega) (HJ.out.len _ (by rw[gD,gE hi];exact gM _)) (by omega)
   have HP:Hid (∀i,i < tb.rows.length->(tb.rows.take (i+1)).map (qK tb.vs sv)=(tb.rows.take i).map (qK tb.vs sv)++[qK tb.vs sv (tb.rows.getD i [])]):=hid fun i hi=>by
    rw[tA,gE hi,gD,gE hi,mA];rfl
   have HPl:Hid (∀i,i<=tb.rows.length->((tb.rows.take i).map (qK tb.vs sv)).length=i):=hid fun i hi=>by rw[lM,bQ];omega
   have HPn:Hid ((tb.rows.take tb.rows.length).map (qK tb.vs sv)=tb.rows.map (qK tb.vs sv)):=hid (by rw[tL])
   have HCr:Hid (∀W,Bl w3 W->∀i,i < tb.rows.length->∃(b o:Nat) (u:Value),a1=some ⟨b,o,none⟩/\W.cell? ⟨b,o+i,none⟩=some u/\IS W u (tb.rows.getD i [])):=hid fun W hW i hi=>by
    obtain⟨a',c',e,hh⟩:=(HI3.out.below hW).rows;simp only[Value.slice.injEq]at e;obtain⟨rfl,-,-⟩:=e;rcases hh with h0|⟨b,o,rfl,hq⟩
    ·omega
    ·obtain⟨u,h1,h2⟩:=hq i hi;exact⟨b,o,u,rfl,h1,h2⟩
   have HM:Hid (∀r∈tb.rows.map (qK tb.vs sv),r.length<=1099511627776):=hid fun r hr=>by
    obtain⟨q,-,rfl⟩:=List.mem_map.1 hr;rw[uP];omega
   obtain⟨nr,hnr'⟩:∃nr,nr=tb.rows.length:=⟨_,rfl⟩;rw[<-hnr']at KV HP HPl HPn HCr hnr HX3 ⊢;clear hnr' HI3;generalize tb.vs.length=l0 at *;generalize tb.ws.length=l2 at *;have d1:=HX3.out.c1;go_upto_region 7 with fail
   rw[<-hW4];clear hW4;have d1:=(HX3.out.below HS4.out.1).c1;generalize wr=wo at *;go_wp2_with fail
   clear d1;go_loopw [9,27] (fun u t wr=>∃(i:Nat) (vr:Value),i<=nr/\t=.int .i64 i/\vr=u/\Hid (∃uo,Bl w3 wr/\RQ wr w3.heap.size vr uo ((tb.rows.take i).map (qK tb.vs sv)))) (fun _ t _=>nr - (intOf t).toNat)
   case atStart=>exact⟨0,_,nZ _,rfl,rfl,hid ⟨[],HS4.out.1,HS4.out.2⟩⟩
   case round=>
    clear HS4;obtain⟨i,vr,hin,rfl,rfl,HT⟩:=hrel;obtain⟨uo,hB,hQ⟩:=HT.out;have HBr:=hid hB;have HQ:=hid hQ;clear HT hB hQ;by_cases hlt2:i < nr
    ·have i2:(i:Int) < (nr:Int):=by omega
     obtain⟨b5,o5,u5,ea,e5,hu5⟩:=HCr.out wr HBr.out i hlt2;subst ea;have KV1:=hid (KV.out wr u5 i HBr.out hlt2 hu5);have HPj:=hid (HP.out i hlt2);have hlj:=HPl.out i hin;have HXr:=hid (HX3.out.below HBr.out);have d0:=HXr.out.c0;have d1:=HXr.out.c1;have d2:=HXr.out.c2;obtain⟨au,cu,rfl,-⟩:=hu5;generalize (tb.rows.getD i []).length=lr at *;generalize qK tb.vs sv (tb.rows.getD i [])=pr at *;go_wp2_with fail
     refine KV1.out.mono ?_;rintro e w5 ⟨v5,rfl,hv5,hb5⟩;have HQ5:=hid (HQ.out.below hb5);have HB5:=hid (bt HBr.out hb5);have hszo:w3.heap.size<=wr.heap.size:=HBr.out.size;have HV5:=hid (qF hv5 hszo)
     have HAp:Hid (∀q,q < ((tb.rows.take i).map (qK tb.vs sv)).length->∀g,(uo.getD q undef).ownBlock=some g->v5.ownBlock≠some g):=hid fun q hq g h1 h2=>by
      have a1:=((HQ.out.each q hq).lt g h1).2;have a2:=(hv5.lt g h2).1;omega
     have hs5:w3.heap.size<=w5.heap.size:=bK hszo hb5.size;obtain⟨a5,k5,e5'⟩:=zD hv5;subst e5';clear hv5 hb5 KV1 e5 HBr d0 d1 d2 HXr hszo;have ho5:w5.ownsRow w3.heap.size 24 1 vr i uo:=by have:=HQ5.out.own;rw[hlj]at this;exact this
     have HO5:=hid ho5;clear ho5;go_wp2_with (first|(at_builtin;refine wpList_append_lies _ rfl _ _ 23 rfl w3.heap.size 24 iS (.slice none 0 0) 1 24 Tryz.underlying23 hj hy0 hy1 hy2 rfl (by decide) vr _ uo rfl (HO5.out.alloc _) ⟨_,0,none⟩ 1 1 [.slice a5 pr.length k5] rfl rfl (qH _ _ _) (fun u hu=>by simp at hu;subst hu;rfl) (by decide) (by unfold maxLen;omega) (by omega) (by simp;omega) _ rfl ?_;intro g6 cp6 w6 hown6 hgrow6 hat6 hlt6)|fail)
     have HN:Hid (∃uo',Bl w3 w6/\RQ w6 w3.heap.size (.slice (some ⟨g6,0,none⟩) (i+1) cp6) uo' ((tb.rows.take (i+1)).map (qK tb.vs sv))):=hid ⟨_,(HB5.out.alloc hs5 _).grown hgrow6 (by simp;omega) (fun q hq=>(HO5.out.lt q hq).1),by rw[HPj.out];exact HQ5.out.step HV5.out HAp.out (by rw[hlj];exact hown6) hgrow6⟩;clear hown6 hgrow6 hat6 hlt6;go_roundw
     case rel=>exact⟨i+1,_,by omega,by go_num,rfl,HN⟩
     case measure=>simp[intOf];omega
    ·obtain rfl:i=nr:=by omega
     have i2:¬((i:Int) < (i:Int)):=by omega
     have hlj:=HPl.out i (nR _);rw[HPn.out]at HQ hlj;clear HCr KV HP HPl HPn HX3;have KS:=hid (kD (fun u=>∀k,u.ownBlock=some k->w3.heap.size<=k) wr _ wr vr uo (tb.rows.map (qK tb.vs sv)) (nR _) (bI _ _) HQ.out.rsx (by omega) HM.out);have HLS:Hid ((srt (tb.rows.map (qK tb.vs sv))).length<=10000):=hid (by have:=x8 _ (tb.rows.map (qK tb.vs sv)) (nR _);omega)
     have HE:Hid (∀w7 v7 us7,RSx (fun u=>∀k,u.ownBlock=some k->w3.heap.size<=k) wr w7 v7 us7 (srt (tb.rows.map (qK tb.vs sv)))->qCo wr vr v7->Bl wr w7->ElS wo.heap.size w7 ⟨.slice (some ⟨g3,0,none⟩) sv.length c3,v7,sdT o tb⟩/\Bl wo w7):=hid fun w7 v7 us7 h1 h2 h3=>by
      have hsd:sdT o tb=⟨sv,srt (tb.rows.map (qK tb.vs sv))⟩:=by unfold sdT;rw[<-HSV.out]
      rw[hsd];have hle:=HB3.out.size;refine⟨qEG (qB (qB HO3.out HBr.out) h3) h3 (us:=us7) ⟨h1.sl,h1.len,fun i hi=>⟨(h1.each i hi).1,fun k hk=>bK hle ((h1.each i hi).2 k hk)⟩⟩ (fun k hk=>?_),bt HB3.out (bt HBr.out h3)⟩;rcases h2 with h2|h2
      ·rw[h2]at hk;exact bK hle (HQ.out.own.lt k hk).1
      ·exact bK hle (bK HBr.out.size (h2 k hk))
     generalize hR:srt (tb.rows.map (qK tb.vs sv))=R at *;clear hR HM HQ HBr HO3;go_wp2_with fail
     refine KS.out.mono ?_;rintro e w7 ⟨v7,us7,rfl,hRS7,hNw,hb7⟩;have HE7:=hid (HE.out w7 v7 us7 hRS7 hNw hb7);obtain⟨⟨a7,k7,e7,-,-⟩,-,-⟩:=hRS7;subst e7;have hs7:w.heap.size<=w7.heap.size:=bK HB.out.size HE7.out.2.size;have ho7:w7.ownsRow w.heap.size 94 2 vs j (sl.flatMap scs):=by have:=(HS.out.below HE7.out.2).own;rw[hsll]at this;exact this
     have HO7:=hid ho7;clear hb7 KS HE hNw ho7;generalize R.length=lR at *;generalize sv.length=lsv at *;go_wp2_with (first|(at_builtin;refine wpList_append_lies _ rfl _ _ 78 rfl w.heap.size 94 iD (.agg #[.slice none 0 0,.slice none 0 0]) 2 48 Tryz.underlying78 hd hd0 hd1 hd2 rfl (by decide) vs _ _ rfl (HO7.out.alloc _) ⟨_,0,none⟩ 1 1 [.slice (some ⟨g3,0,none⟩) lsv c3,.slice a7 lR k7] rfl rfl (K7 _ _ _ _) (fun u hu=>by simp at hu;rcases hu with rfl|rfl <;> rfl) (by decide) (by unfold maxLen;omega) (by omega) (by simp;omega) _ rfl ?_;intro g8 cp8 w8 hown8 hgrow8 hat8 hlt8)|fail)
     have HN:Hid (∃sl':List SdR,sl'.map SdR.s=(tl.take (j+1)).map (sdT o)/\Bl w w8/\SDs w8 w.heap.size (.slice (some ⟨g8,0,none⟩) (j+1) cp8) sl'):=hid ⟨sl++[⟨.slice (some ⟨g3,0,none⟩) lsv c3,.slice a7 lR k7,sdT o tb⟩],by rw[HTj.out,mA,mA,HSL.out];rfl,((bt HB.out HE7.out.2).alloc hs7 _).grown hgrow8 (by simp;omega) (fun q hq=>(HO7.out.lt q hq).1),by
      have:=HS.out.push HE7.out.2 HE7.out.1 hgrow8 (by rw[hsll];exact hown8) hat8;rw[hsll]at this;exact this⟩
     clear hown8 hgrow8 hat8 hlt8 HE7 HO7;go_roundw
     case rel=>exact⟨j+1,_,by omega,by go_num,rfl,HN⟩
     case measure=>simp[intOf];omega
  ·obtain rfl:j=n:=by omega
   have i1:¬((j:Int) < (j:Int)):=by omega
   have HF:Hid (ISds wr vs (tl.map (sdT o))/\Bl w wr):=hid ⟨by have:=HS.out.isds;rw[HSL.out,HTn.out]at this;exact this,HB.out⟩;clear HS HB HSL HC HOK HT1 HTn HTl;go_wp2_with fail
   go_ret;exact⟨_,rfl,HF.out.1,HF.out.2⟩
def vX(tl:List TbV)(o:List Int):List Sd:=(tl.map (sdT o)).map (sdO o)
def nxJ(tl:List TbV)(o:List Int):List Int->List Int:=vV (vX tl o)
theorem XV(tl:List TbV)(o:List Int):∀s∈vX tl o,s.Ok:=fun s hs=>by
 obtain⟨m,hm,rfl⟩:=List.mem_map.1 hs;obtain⟨t,-,rfl⟩:=List.mem_map.1 hm;exact qA7 (yc o t)
def xJ(tl:List TbV):Bool:=tl.any fun t=>decide (t.rows.length=0)
def lvJ(tl:List TbV)(o:List Int)(j:Nat):List (List Int):=if xJ tl then [] else yz (nxJ tl o) [] j
theorem qCB(tl:List TbV)(o:List Int)(j:Nat):lvJ tl o (j+1)=(lvJ tl o j).flatMap fun q=>(nxJ tl o q).map fun v=>q++[v]:=by
 unfold lvJ;by_cases h:xJ tl
 ·rw[if_pos h,if_pos h];rfl
 ·rw[if_neg h,if_neg h];rfl
def smJ(tl:List TbV)(o:List Int)(j:Nat):Bool:=(List.range j).all fun i=>decide ((lvJ tl o (i+1)).length<=10000)
def viJ(tl:List TbV)(o:List Int)(j:Nat):Nat:=((List.range j).map fun i=>(lvJ tl o (i+1)).length).sum
theorem Qx(tl:List TbV)(o:List Int)(j:Nat):smJ tl o (j+1)=(smJ tl o j&&decide ((lvJ tl o (j+1)).length<=10000)):=by
 unfold smJ;rw[List.range_succ,List.all_append];simp
theorem V6(tl:List TbV)(o:List Int)(j:Nat):viJ tl o (j+1)=viJ tl o j+(lvJ tl o (j+1)).length:=by
 unfold viJ;rw[List.range_succ,mA,List.sum_append];simp
theorem YF{tl:List TbV}(hjk:j < k)(h:¬(lvJ tl o (j+1)).length<=10000):smJ tl o k=false:=by
 unfold smJ;rw[List.all_eq_false];exact⟨j,List.mem_range.2 hjk,by simpa using h⟩
theorem V7{tl:List TbV}:∀{j:Nat},smJ tl o j=true->viJ tl o j<=j*10000
 |0,_=>nR _
 |j+1,h=>by
  rw[Qx,bA,dE]at h;rw[V6];have:=V7 h.1;omega
theorem V8(tl:List TbV)(o:List Int):(lvJ tl o 0).length<=1:=by
 unfold lvJ;by_cases h:xJ tl
 ·rw[if_pos h];exact nZ _
 ·rw[if_neg h];exact nR _
theorem qA8{tl:List TbV}:∀{j:Nat},smJ tl o j=true->(lvJ tl o j).length<=10000
 |0,_=>bK (V8 tl o) (by decide)
 |j+1,h=>by
  rw[Qx,bA,dE]at h;exact h.2
theorem XW{tl:List TbV}:∀q∈lvJ tl o j,q.length=j:=fun q hq=>by
 unfold lvJ at hq;by_cases h:xJ tl
 ·rw[if_pos h]at hq;cases hq
 ·rw[if_neg h]at hq;have:=Vw _ _ j q hq;simpa using this
theorem V9(tl:List TbV)(o:List Int):Hld (vX tl o) []:=fun s _=>Or.inl (by unfold prt;rfl)
theorem qDD{tl:List TbV}:∀q∈lvJ tl o j,Hld (vX tl o) q:=fun q hq=>by
 unfold lvJ at hq;by_cases h:xJ tl
 ·rw[if_pos h]at hq;cases hq
 ·rw[if_neg h]at hq;exact Vy (XV tl o) (V9 tl o) j q hq
theorem qED(R:List (List Int))(q:List Int)(k n:Nat):(VA R q k n).length<=n:=by
 unfold VA;rw[lM];exact qES _ _
theorem qA9(m:Nat)(R:List (List Int))(q:List Int):(nN m R q).length<=R.length:=by
 unfold nN;by_cases h:q.length < m
 ·rw[if_pos h];have:=qED R q (kA R q) (nA R q);have h2:=(Zm (R:=R) (q:=q)).le;omega
 ·rw[if_neg h];exact nZ _
theorem je(o:List Int)(t:TbV):(sdT o t).rows.length<=t.rows.length:=by
 have:=x8 _ (t.rows.map (qK t.vs (shr o t.vs))) (nR _);rw[lM]at this;exact this
theorem qDE{tl:List TbV}(hok:∀t∈tl,TvJ t)(p:List Int):(nxJ tl o p).length<=10000:=by
 unfold nxJ vV;cases hf:(vX tl o).find? (fun s=>s.H p.length)with
 |none=>exact nZ _
 |some f=>
  have hm:=List.mem_of_find?_eq_some hf;unfold vX at hm;obtain⟨m,hm2,rfl⟩:=List.mem_map.1 hm;obtain⟨t,ht,rfl⟩:=List.mem_map.1 hm2;show(vF (vX tl o) (sdO o (sdT o t)) p).length<=10000;unfold vF;refine bK (List.length_filter_le _ _) (bK (qA9 _ _ _) (bK (je o t) (hok t ht).n))
theorem uL{vs:List Int}(hi:i < o.length):qN o (shr o vs) i=decide (o.getD i 0∈vs):=by
 unfold qN;by_cases h:o.getD i 0∈vs
 ·rw[decide_eq_true h];refine decide_eq_true (List.mem_filter.2 ⟨?_,decide_eq_true h⟩);rw[gD,gE hi];exact gM hi
 ·rw[decide_eq_false h];exact decide_eq_false fun h1=>h (YK h1)
theorem qDF(H:Nat->Bool)(p:List Int):(prt H p).length=((List.range p.length).filter H).length:=by
 unfold prt;rw[lM]
theorem kd{l:List Int}{q:Int->Bool}:∀k,k<=l.length->((l.take k).filter q).length=((List.range k).filter fun i=>q (l.getD i 0)).length
 |0,_=>rfl
 |k+1,h=>by
  have ih:=kd (l:=l) (q:=q) k (by omega);rw[List.range_succ,List.filter_append,lA,<-ih,qm (show k < l.length by omega),List.filter_append,lA];congr 1;by_cases e:q (l.getD k 0)
  ·simp only[List.filter_cons,e,if_true,List.filter_nil,List.length_cons,List.length_nil]
  ·simp only[List.filter_cons,e,if_false,List.filter_nil,List.length_nil,Bool.false_eq_true]
theorem qDG{vs:List Int}(hp:p.length<=o.length):(prt (qN o (shr o vs)) p).length=((o.take p.length).filter fun x=>decide (x∈vs)).length:=by
 rw[qDF,kd p.length hp];congr 1;refine List.filter_congr fun i hi=>?_;exact uL (by have:=List.mem_range.1 hi;omega)
theorem qEE{vs:List Int}(hp:p.length < o.length):(prt (qN o (shr o vs)) p).length<=(shr o vs).length/\(qN o (shr o vs) p.length=true->(prt (qN o (shr o vs)) p).length < (shr o vs).length):=by
 have e:o.take (p.length+1)++o.drop (p.length+1)=o:=tD _ _
 have hs:(shr o vs).length=((o.take p.length).filter fun x=>decide (x∈vs)).length+(if o.getD p.length 0∈vs then 1 else 0)+((o.drop (p.length+1)).filter fun x=>decide (x∈vs)).length:=by
  unfold shr;conv=>lhs;rw[<-e]
  rw[List.filter_append,lA,qm hp,List.filter_append,lA];congr 1;congr 1;by_cases h:o.getD p.length 0∈vs
  ·rw[if_pos h];simp only[List.filter_cons,decide_eq_true h,if_true,List.filter_nil,List.length_cons,List.length_nil]
  ·rw[if_neg h];simp only[List.filter_cons,decide_eq_false h,List.filter_nil,List.length_nil,Bool.false_eq_true,if_false]
 rw[qDG (by omega),hs];refine⟨by omega,fun h=>?_⟩;rw[uL hp,dE]at h;rw[if_pos h];omega
def Qy(tl:List TbV)(o:List Int):Prop:=∀i,i < o.length->∃t∈tl,o.getD i 0∈t.vs
theorem qEb{tl:List TbV}(h:Qy tl o)(hi:i < o.length):zQ o (tl.map (sdT o)) i < (tl.map (sdT o)).length:=by
 obtain⟨t,ht,h1⟩:=h i hi;exact qDJ ⟨sdT o t,List.mem_map_of_mem ht,by show qN o (shr o t.vs) i=true;rw[uL hi];exact decide_eq_true h1⟩
def qk(tl:List TbV)(i:Nat):Bool:=tl.any fun t=>decide ((i:Int)∈t.vs)
def vrJ(tl:List TbV):List Int:=plc (qk tl) 6
theorem QJ(tl:List TbV):(vrJ tl).length<=6:=xd _ _
theorem UA(p:Nat->Bool)(k:Nat):(plc p k).Pairwise (·< ·):=by
 unfold plc;refine List.pairwise_map.2 ((List.pairwise_lt_range.filter _).imp fun {a b} h=>?_);show(a:Int) < (b:Int);omega
theorem qBA(tl:List TbV):(vrJ tl).Nodup:=(UA _ _).imp fun {a b} h=>by omega
theorem vu{p:Nat->Bool}{x:Int}:x∈plc p k↔∃i,i < k/\p i=true/\(i:Int)=x:=by
 unfold plc;rw[List.mem_map];constructor
 ·rintro⟨i,hi,rfl⟩;obtain⟨h1,h2⟩:=List.mem_filter.1 hi;exact⟨i,List.mem_range.1 h1,h2,rfl⟩
 ·rintro⟨i,h1,h2,rfl⟩;exact⟨i,List.mem_filter.2 ⟨List.mem_range.2 h1,h2⟩,rfl⟩
theorem Ju:∀{vr o:List Int},vr.Nodup->(∀x∈vr,x∈o)->o.length=vr.length->vr.Perm o
 |[],o,_,_,hl=>by
  have:o=[]:=List.length_eq_zero_iff.1 hl;rw[this]
 |a::r,o,hn,hs,hl=>by
  rw[List.nodup_cons]at hn;have ha:=hs a List.mem_cons_self;have h1:=List.perm_cons_erase ha;have h2:r.Perm (o.erase a):=Ju hn.2 (fun x hx=>(List.mem_erase_of_ne (fun e=>hn.1 (by rw[<-e];exact hx))).2 (hs x (mC _ hx))) (by rw[List.length_erase_of_mem ha,hl];simp);exact(h2.cons a).trans h1.symm
def vY(tl:List TbV)(o:List Int):Bool:=decide (o.length=(vrJ tl).length)&&ko (vrJ tl) o
theorem yT{tl:List TbV}:vY tl o=true↔(vrJ tl).Perm o:=by
 unfold vY;rw[bA,dE];constructor
 ·rintro⟨h1,h2⟩;refine Ju (qBA tl) (fun x hx=>?_) h1;unfold ko at h2;rw[aT]at h2;exact of_decide_eq_true (h2 x hx)
 ·intro h;refine⟨h.length_eq.symm,?_⟩;unfold ko;rw[aT];exact fun x hx=>decide_eq_true (h.subset hx)
theorem UB{tl:List TbV}(h:vY tl o=true):Qy tl o:=fun i hi=>by
 have hm:o.getD i 0∈vrJ tl:=(yT.1 h).symm.subset (by rw[gD,gE hi];exact gM hi);obtain⟨k,-,h2,h3⟩:=vu.1 hm;unfold qk at h2;obtain⟨t,ht,h4⟩:=List.any_eq_true.1 h2;exact⟨t,ht,by rw[<-h3];exact of_decide_eq_true h4⟩
def qc(t:TbV):Bool:=zE t.vs t.rows t.ws
theorem QK{t:TbV}(h:qc t=true):TvJ t:=by
 obtain⟨h1,h2,h3⟩:=zK h;exact⟨zx h1,h2,h3⟩
def okJ(tl:List TbV)(o:List Int):Bool:=decide (tl.length<=8)&&tl.all qc&&vY tl o
def y5(tl:List TbV)(o:List Int):List (List Int):=if okJ tl o&&smJ tl o o.length then lvJ tl o o.length else []
def ya(tl:List TbV)(o:List Int):Int:=if okJ tl o&&smJ tl o o.length then (viJ tl o o.length:Int) else -1
theorem qDH{tl:List TbV}(h:okJ tl o=false):y5 tl o=[]/\ya tl o=-1:=by
 unfold y5 ya;rw[h];exact⟨rfl,rfl⟩
theorem jf{tl:List TbV}(h:okJ tl o=true):y5 tl o=(if smJ tl o o.length then lvJ tl o o.length else [])/\ya tl o=(if smJ tl o o.length then (viJ tl o o.length:Int) else -1):=by
 unfold y5 ya;rw[h,Bool.true_and];exact⟨rfl,rfl⟩
theorem qBB{tl:List TbV}(hj:j < tl.length)(i:Nat):qk (tl.take (j+1)) i=(qk (tl.take j) i||decide ((i:Int)∈(tl.getD j qA).vs)):=by
 unfold qk;rw[tA,gE hj,List.any_append,gD,gE hj];simp
theorem yb{tl:List TbV}:(y5 tl o).length<=10000/\∀r∈y5 tl o,r.length<=6:=by
 unfold y5;by_cases h:okJ tl o&&smJ tl o o.length
 ·rw[if_pos h];rw[bA]at h;have h3:=h.1;unfold okJ at h3;rw[bA]at h3;have h1:=(yT.1 h3.2).length_eq;have h2:=QJ tl;exact⟨qA8 h.2,fun r hr=>by rw[XW r hr];omega⟩
 ·rw[if_neg h];exact⟨by simp,fun r hr=>by cases hr⟩
end Go.Proofs.YtjbpgdpciinlcaaGreat
