import Derived.Deep.RegionHeld
import Derived.OrdersIn
import Derived.Test.YtcnfapnfmnolbaaGreatRq44
set_option maxHeartbeats 40000000
set_option maxRecDepth 1000000
namespace Go.Proofs.YtcnfapnfmnolbaaGreat
open Go.RowKit
variable {B l n:Nat}{w:World}
theorem qCD{P:Program}{o:Oper}{a:Act}{K U:Act->World->Prop}{Q:Exit->Act->World->Prop}(I:∀c,o.op≠.defer c)(M:∀a w,K a w->U a w)(h:o.wp P a w K Q):o.wpIn (Fence.wide.inRound l) n P a w U Q:=by
 unfold Oper.wpIn;refine⟨λf _=>trivial,?_⟩;rw[Oper.semAt_eq _ _ _ I];unfold Oper.wp at h;generalize (execOp a.eval o).run P w=r at *;cases r with
 |ok x w'=>
  cases x <;> simp only[Oper.uponIn,Oper.upon]at h ⊢ <;> first
   |exact M _ _ h
   |exact⟨(λO=>by cases O),CallsIn.inRound l (callsIn_wide.2 (h.mono λe w'' V=>by cases e <;> first|exact M _ _ V|exact V))⟩
   |exact⟨(λO=>by cases O),λc cs _=>by obtain⟨v,w'',r,s⟩:=h c cs;exact⟨v,w'',M _ _ r,stepsIn_wide.2 s⟩⟩
   |exact h.elim
 |halt x w'=>cases x <;> simp only[Oper.uponIn,Oper.upon]at h ⊢ <;> exact h
theorem uO{l n:Nat}{P:Program}{ops:Array Oper}{Q:Exit->Act->World->Prop}(I:∀(i:Nat) (o:Oper),ops[i]?=some o->∀c,o.op≠.defer c)(K:¬LetsOut Q):∀(ls:List Nat) (a:Act) (w:World),wpOps P ops Q ls a w->wpOpsIn (Fence.wide.inRound l) n P ops Q ls a w
 |[],_,_,h=>h
 |i::rest,a,w,h=>by
  rw[wpOps_cons]at h;rw[wpOpsIn_cons];unfold wpOp at h;unfold wpOpIn;cases ho:ops[i]? with
  |none=>
   simp only[ho]at h ⊢;exact uO I K rest a w h
  |some o=>
   simp only[ho]at h ⊢;by_cases M:Region.wanted o (yielded ops a.tmps)=true
   ·rw[if_pos M]at h ⊢;rcases h with h|⟨-,h⟩;exact qCD (I i o ho) (λa w=>uO I K rest a w) h;exact absurd h K
   rw[if_neg M]at h ⊢;exact⟨λf _=>trivial,uO I K rest _ _ h⟩
def qGu(o:Oper):Bool:=match o.op with| .defer _=>false|_=>true
theorem Ko{id:Nat}{P:Program}{ops:Array Oper}{Q:Exit->Act->World->Prop}{S:World->Prop}{a:Act}(K:P.follows .mixedOrders=true)(M:ops.all qGu=true)(O:¬LetsOut Q)(U:S w.drew)(h:S w.drew->wpAnyH P .any ops Q S ops.size (Array.replicate ops.size false) a w.drew):(Code.region id ops true).wpIn (Fence.wide.inRound l) n P Q a w:=by
 refine wpIn_region_draw λt=>uO (λi o ho c e=>?_) O _ _ _ ?_;have I:=Array.all_eq_true_iff_forall_mem.1 M o (Array.mem_of_getElem? ho);unfold qGu at I;rw[e]at I;cases I
 simp only[Region.schedule,K,Bool.true_or,if_true];exact wpAny_sound ops.size t _ a _ (wpAny_of_held _ _ _ _ (h U))
open Meet Go.Shelf
attribute [local go_sem] Oper.semAt_some
theorem ux{t:TbV}(h:qU t=true):t.vs.length<=1099511627776/\qT t.rows:=⟨(QU h).vs,(QU h).rows⟩
theorem YO(W:World)(a0 a1 a2 K M b2:Value)(a b:TbV)(hA:IT W a0 a1 a2 a.vs a.rows a.ws)(hB:IT W K M b2 b.vs b.rows b.ws)(O:qU a=true)(hb:qU b=true):
 Cl 57 #[.agg #[a0,a1,a2],.agg #[K,M,b2]] W λe w'=>∃(U:Option Addr) (m0 z0:Nat) (V:Option Addr) (m1 z1:Nat) (q2:Option Addr) (m2 z2:Nat) (us:List Value),e=.returned (.agg #[.slice U m0 z0,.slice V m1 z1,.slice q2 m2 z2])/\TWr w' W.1.size ⟨.slice U m0 z0,.slice V m1 z1,.slice q2 m2 z2,us,(xR a b).vs,(xR a b).rows,(xR a b).ws⟩/\Bl W w':=by
 refine(Uf W a0 a1 a2 K M b2 a.vs a.ws b.vs b.ws a.rows b.rows hA hB (ux O).1 (ux O).2 (ux hb).1 (ux hb).2 O hb).mono ?_;rintro e w' ⟨x0,x1,x2,us,rfl,I,a3⟩;obtain⟨U,z0,e0⟩:=qG I.o0;obtain⟨V,z1,e1⟩:=qG I.rq.own;obtain⟨q2,z2,e2⟩:=qG I.o2;subst e0 e1 e2;exact⟨_,_,_,_,_,_,_,_,_,us,rfl,I.tw,a3⟩
theorem RdW.kt{w0 X Y:World}{p:Nat}{x0 x1 x2:Value}{prs:LI}{T:List TbV}(h:RdW w0 p x0 x1 x2 prs T X)(O:KT B X Y)(hB:w0.1.size<=B):RdW w0 p x0 x1 x2 prs T Y:=by
 obtain⟨⟨rl,I,V⟩,U,h4,h5⟩:=h;have M:∀{e:TypeId} {b s n:Nat} {v:Value} {xs:List Value},X.ownsRow b e s v n xs->e≠176->e≠4->Y.ownsRow b e s v n xs:=λho g1 g2=>qC ho λg hg=>by
  obtain⟨cur,hc⟩:=qN ho hg;exact O.cel g cur _ _ hc g1 g2
 exact⟨⟨rl,⟨M I.own Dd Dd,λt K=>⟨M (I.each t K).o0 Dd Dd,⟨M (I.each t K).rq.own Dd Dd,(I.each t K).rq.len,λi hi=>M ((I.each t K).rq.each i hi) Dd Dd,(I.each t K).rq.ap⟩,M (I.each t K).o2 Dd Dd,(I.each t K).a02,(I.each t K).a0,(I.each t K).a2⟩,I.ap⟩,V⟩,⟨(O.cel p _ _ _ U.blk Dd Dd).trans U.blk⟩,M h4 Dd Dd,h5.trans (O.bel.mono hB)⟩
def qGn(Q:Exit->Act->World->Prop):Exit->Act->World->Prop
 | .panic _,_,_=>False
 |e,a,w=>Q e a w
theorem qEU{Q:Exit->Act->World->Prop}{e:Exit}{a:Act}(h:qGn Q e a w):Q e a w:=by
 cases e <;> first|exact h|exact h.elim
theorem Q0{g o0 o1 o2:Nat}{W w6:World}{y0 y1 y2:Value}(hb:Bl W w6)(O:g<B)(hB:B<=W.1.size):KeepsFrom B W (((w6.setCell (az g o0) y0).setCell (az g o1) y1).setCell (az g o2) y2)/\KpG B g W (((w6.setCell (az g o0) y0).setCell (az g o1) y1).setCell (az g o2) y2):=by
 have hs:(((w6.setCell (az g o0) y0).setCell (az g o1) y1).setCell (az g o2) y2).1.size=w6.1.size:=Ss;have I:∀k,k≠g->(((w6.setCell (az g o0) y0).setCell (az g o1) y1).setCell (az g o2) y2).1[k]?=w6.1[k]?:=λk I=>by
  rw[bD _ _ _ _ (by exact I),bD _ _ _ _ (by exact I),bD _ _ _ _ (by exact I)]
 refine⟨⟨by rw[hs];exact hb.size,λk o M K _=>?_⟩,⟨by rw[hs];exact hb.size,λk M K=>?_⟩⟩;rw[I k Oo,hb.block k (qW K)];exact K;rw[I k K,hb.block k Oo]
theorem Kc(w0 w:World)(g c0 gp c1 m:Nat)(a2:Option Addr)(n2 c2:Nat)(T:List TbV)(prs:LI)(par:Nat->Nat)(hw:Bl w0 w)(hT:∃rl,TBs w w0.1.size (.slice (some (az g 0)) (m+1) c0) rl/\rl.map tvB=T)(i0:T.length=m+1)(f8:prs.length=m+1)(hP:w.ownsRow w0.1.size 3 1 (.slice (some (az gp 0)) (m+1) c1) (m+1) (prs.map ai))(hm:m<=12)(b9:∀i,i<m->prs.getD i 0=(par i:Int)/\par i<=m)
 (hU:∀n,n<=m->∀i,i<=m->qU ((upT par T n).getD i qA)=true) (hD:∀n,n<=m->∀i,i<=m->qU ((dnT par m (upT par T m) n).getD i qA)=true):
 Cl 32 #[.agg #[.slice (some (az g 0)) (m+1) c0,.slice (some (az gp 0)) (m+1) c1,.slice a2 n2 c2]] w λe w'=>(∃v,e=.returned v)/\(∃rl,TBs w' w0.1.size (.slice (some (az g 0)) (m+1) c0) rl/\rl.map tvB=dnT par m (upT par T m) m)/\Bl w0 w'/\KpG w.1.size g w w':=by
 have i4:Tryz.prog.follows .mixedOrders=true:=Kl;have d5:∀W:World,Bl W W.drew:=λW=>(bJ _ _).drew;obtain⟨W1,d6⟩:=Ex (w.alloc (.cells #[.slice (some (az g 0)) (m+1) c0,.slice (some (az gp 0)) (m+1) c1,.slice a2 n2 c2] 69));have d7:Hh (Bl w W1):=ay (by rw[d6];exact yk (bJ _ _) _);have d8:Hh (RdW w0 w.1.size (.slice (some (az g 0)) (m+1) c0) (.slice (some (az gp 0)) (m+1) c1) (.slice a2 n2 c2) prs T W1):=ay (by
  obtain⟨rl,O,h2⟩:=hT;exact⟨⟨rl,O.below d7.o,h2⟩,by rw[d6];exact Bx3.made _ _ _ _ _,by rw[f8];exact qB hP d7.o,bt hw d7.o⟩)
 have i5:g<w.1.size:=by
  obtain⟨rl,O,-⟩:=hT;exact(O.own.lt g rfl).2
 have i6:Hh (KpG w.1.size g w W1):=ay (KpG.of d7.o);have m4:m+1<=c1:=by
  rcases hP.2 with ⟨O,-⟩|⟨g',cap,cur,e,-,-,O,-⟩;cases O
  simp only[Value.slice.injEq]at e;obtain⟨-,-,rfl⟩:=e;exact O
 have d9:=ay b9;have HU:=ay hU;have HD:=ay hD;have f9:Hh (∀n,(upT par T n).length=m+1):=ay λn=>by rw[ZZ,i0]
 have g4:Hh (∀n,(dnT par m (upT par T m) n).length=m+1):=ay λn=>by rw[VG,ZZ,i0]
 have e0:Hh (∀(V:List TbV) (W:World),RdW w0 w.1.size (.slice (some (az g 0)) (m+1) c0) (.slice (some (az gp 0)) (m+1) c1) (.slice a2 n2 c2) prs V W->∀i,i<m->W.cell? (az gp i)=some (ai (par i:Int))):=ay λV W h i hi=>by
  have O:=h.pa;rw[f8]at O;have O:=O.cellAt i Oo;rw[bK,gE Oo,<-gdR (d:=0) Oo,(b9 i hi).1]at O;exact O
 clear hT hP hw b9 hU hD f8;refine(callsIn_wide (n:=0)).1 (callsIn_of_wp_marks Tryz.func32 rfl trivial ?_ rfl);simp only[Tryz.ntmps32,List.size_toArray,List.length_cons,List.length_nil,Nat.reduceAdd,Nat.reduceSub,Array.replicate_succ,Array.replicate_zero,List.push_toArray,List.append_toArray,List.nil_append,List.cons_append];refine wpIn_mono (Q:=qGn _) ?_ (λe a w h=>qEU h);refine(wpIn_wide (n:=0)).2 ?_;go_upto_region 1 with fail;rw[<-d6];clear d6;have k0:=d8.o.bx.c0;have k1:=d8.o.bx.c1;have g5:Hh (∀i,upT par T (i+1)=(upT par T i).set (par i) (xR ((upT par T i).getD (par i) qA) ((upT par T i).getD i qA))):=ay λi=>rfl;have i7:Hh (RdW w0 w.1.size (.slice (some (az g 0)) (m+1) c0) (.slice (some (az gp 0)) (m+1) c1) (.slice a2 n2 c2) prs (upT par T 0) W1):=ay d8.o;clear d8;go_wp2_with fail;clear k0 k1;go_loopw [16] (λt wr=>∃(i:Nat),i<=m/\t=ai i/\Hh (RdW w0 w.1.size (.slice (some (az g 0)) (m+1) c0) (.slice (some (az gp 0)) (m+1) c1) (.slice a2 n2 c2) prs (upT par T i) wr/\KpG w.1.size g w wr)) (λt _=>m-(intOf t).toNat);exact⟨0,nZ _,rfl,ay ⟨i7.o,i6.o⟩⟩;clear i7 i6;obtain⟨i,g6,rfl,g7⟩:=hrel;have HR:=ay g7.o.1;have c7:=ay g7.o.2;clear g7;by_cases i8:i<m
 ·have i1:(i:Int)<(m:Int):=Oo;have e1:=e0.o _ _ HR.o i i8;have hq:=(d9.o i i8).2;obtain⟨q,i9⟩:=Ex (par i);have g8:=ay (g5.o i);have g9:=HU.o i g6 (par i) hq;have a9:=HU.o i g6 i g6;have j0:=f9.o i;rw[<-i9]at e1 hq g8 g9;clear i9;generalize hV:upT par T i=V at *;clear hV;obtain⟨p0,m0,d0,p1,m1,d1,p2,m2,d2,c8⟩:=HR.o.cells (j:=q) Oo;obtain⟨r0,n0,f0,r1,n1,f1,r2,c9,f2,d3⟩:=HR.o.cells (j:=i) Oo;have a3:=ay c8;have a4:=ay d3;have e2:Hh (∀W,Bl wr W->Cl 57 #[.agg #[.slice p0 m0 d0,.slice p1 m1 d1,.slice p2 m2 d2],.agg #[.slice r0 n0 f0,.slice r1 n1 f1,.slice r2 c9 f2]] W λe w'=>∃(q0:Option Addr) (m0 z0:Nat) (q1:Option Addr) (m1 z1:Nat) (q2:Option Addr) (m2 z2:Nat) (us:List Value),e=.returned (.agg #[.slice q0 m0 z0,.slice q1 m1 z1,.slice q2 m2 z2])/\TWr w' wr.1.size ⟨.slice q0 m0 z0,.slice q1 m1 z1,.slice q2 m2 z2,us,(xR (V.getD q qA) (V.getD i qA)).vs,(xR (V.getD q qA) (V.getD i qA)).rows,(xR (V.getD q qA) (V.getD i qA)).ws⟩/\Bl wr w'):=ay λW hW=>by
   refine(YO W _ _ _ _ _ _ (V.getD q qA) (V.getD i qA) (a3.o W hW).2.2.2 (a4.o W hW).2.2.2 g9 a9).mono ?_;rintro e w' ⟨q0,m0,z0,q1,m1,z1,q2,m2,z2,us,rfl,O,h2⟩;exact⟨_,_,_,_,_,_,_,_,_,us,rfl,TW.base O hW.size,bt hW h2⟩
  have b7:Hh (∀W,Bl wr W->W.cell? (az w.1.size 0)=some (.slice (some (az g 0)) (m+1) c0)/\W.cell? (az g (q*3))=some (.slice p0 m0 d0)/\W.cell? (az g (q*3+1))=some (.slice p1 m1 d1)/\W.cell? (az g (q*3+2))=some (.slice p2 m2 d2)/\W.cell? (az g (i*3))=some (.slice r0 n0 f0)/\W.cell? (az g (i*3+1))=some (.slice r1 n1 f1)/\W.cell? (az g (i*3+2))=some (.slice r2 c9 f2)):=ay λW hW=>⟨(HR.o.bx.below hW).c0,(a3.o W hW).1,(a3.o W hW).2.1,(a3.o W hW).2.2.1,(a4.o W hW).1,(a4.o W hW).2.1,(a4.o W hW).2.2.1⟩;have a5:Hh (∀W,Bl wr W->∀j,W.frozen? (az g j)=false):=ay λW hW j=>by
   obtain⟨rl,O,-⟩:=HR.o.tb;obtain⟨cur,hc⟩:=qN (qB O.own hW) (g:=g) rfl;unfold World.frozen?;rw[hc];simp
  have e9:Hh (∀W (t:TbR),Bl wr W->TWr W wr.1.size t->RdW w0 w.1.size (.slice (some (az g 0)) (m+1) c0) (.slice (some (az gp 0)) (m+1) c1) (.slice a2 n2 c2) prs (V.set q (tvB t)) (((W.setCell (az g (q*3)) t.v0).setCell (az g (q*3+1)) t.v1).setCell (az g (q*3+2)) t.v2)):=ay λW t hW ht=>HR.o.put hW ht Oo;have k6:w.1.size≠g:=λe=>by
   obtain⟨rl,O,-⟩:=HR.o.tb;obtain⟨cur,a6⟩:=qN O.own (g:=g) rfl;have:=HR.o.bx.blk;rw[e,a6]at this;simp only[Option.some.injEq,Obj.cells.injEq]at this;exact absurd this.2.1 Dd
  have i2:(q:Int)<(m:Int)+1:=Oo;have i3:(i:Int)<(m:Int)+1:=Oo;clear c8 d3 a3 a4 HR e0 d9 HU HD f9 g4 g5 g9 a9;generalize xR (V.getD q qA) (V.getD i qA)=ST at *;go_upto_region 5 with fail;obtain⟨l0,l1,l2,l3,l4,l5,l6⟩:=b7.o wr.drew (d5 _);have a7:∀(W:World) (j:Nat) (u:Value),W.cell? (az w.1.size 0)=some (.slice (some (az g 0)) (m+1) c0)->(W.setCell (az g j) u).cell? (az w.1.size 0)=some (.slice (some (az g 0)) (m+1) c0):=λW j u hW=>by
   rw[bC _ _ _ _ Nq];exact hW
  refine wp_region_held_drew (S:=λX=>X.cell? (az w.1.size 0)=some (.slice (some (az g 0)) (m+1) c0)) Kl l0 (λI=>?_);refine wTk 0 ?_;try simp only[Act.put,List.setIfInBounds_toArray]
  refine wTk 1 ?_;try simp only[Act.put]
  refine wTk 2 ?_;try simp only[Act.put]
  refine wTk 3 ?_;try simp only[Act.put]
  refine wTk 4 ?_;try simp only[Act.put]
  refine wTk 5 ?_;try simp only[Act.put]
  refine wTk 6 ?_;try simp only[Act.put]
  refine wTk 8 ?_;try simp only[Act.put]
  refine wTk 9 ?_;try simp only[Act.put]
  refine wTk 10 ?_;try simp only[Act.put]
  refine wTk 11 ?_;try simp only[Act.put]
  refine wpAnyH_ready (rs:=[7,12]) Kl Ss ?_
  refine AllReadyH.cons rfl (λK M=>?_) (AllReadyH.cons rfl (λK M=>?_) AllReadyH.nil)
  focus
   go_simp
   refine M.out _ _ l0 (λI=>?_)
   clear M K
   try simp only[Act.put,List.setIfInBounds_toArray,List.set_cons_zero,List.set_cons_succ]
   refine wpAnyH_ready (rs:=[12]) Kl Ss ?_
   refine AllReadyH.cons rfl (λK M=>?_) AllReadyH.nil
   go_simp
   refine M.out _ _ l0 (λI=>?_)
   clear M K
   try simp only[Act.put,List.setIfInBounds_toArray,List.set_cons_zero,List.set_cons_succ]
  rotate_left;focus
   go_simp
   refine M.out _ _ l0 (λI=>?_)
   clear M K
   try simp only[Act.put,List.setIfInBounds_toArray,List.set_cons_zero,List.set_cons_succ]
   refine wpAnyH_ready (rs:=[7]) Kl Ss ?_
   refine AllReadyH.cons rfl (λK M=>?_) AllReadyH.nil
   go_simp
   refine M.out _ _ l0 (λI=>?_)
   clear M K
   try simp only[Act.put,List.setIfInBounds_toArray,List.set_cons_zero,List.set_cons_succ]
  all_goals
   refine wpAnyH_ready (rs:=[13]) Kl Ss ?_
   refine AllReadyH.cons rfl (λK M=>?_) AllReadyH.nil
   go_simp
   go_at_call 57
   refine(e2.o _ (d5 _)).mono ?_
   rintro e w6 ⟨y0,b0,z0,y1,b1,z1,y2,b2,z2,us,rfl,e3,U⟩
   obtain⟨s0,s1,s2,s3,-,-,-⟩:=b7.o w6 U
   have g0:=a5.o w6 U (q*3)
   have g1:=a5.o w6 U (q*3+1)
   have g2:=a5.o w6 U (q*3+2)
   go_wp2_with fail
   refine M.out _ _ s0 (λI=>?_)
   clear M K
   try simp only[Act.put,List.setIfInBounds_toArray,List.set_cons_zero,List.set_cons_succ]
   refine wTk 14 ?_
   try simp only[Act.put,List.setIfInBounds_toArray]
   refine wpAnyH_ready (rs:=[15]) Kl Ss ?_
   refine AllReadyH.cons rfl (λK M=>?_) AllReadyH.nil
   go_simp
   refine M.out _ _ (a7 _ _ _ (a7 _ _ _ (a7 _ _ _ s0))) (λI=>?_)
   clear M K
   try simp only[Act.put,List.setIfInBounds_toArray,List.set_cons_zero,List.set_cons_succ]
   refine wpAnyH_done Kl ?_ _
   have HN:Hh (RdW w0 w.1.size (.slice (some (az g 0)) (m+1) c0) (.slice (some (az gp 0)) (m+1) c1) (.slice a2 n2 c2) prs (upT par T (i+1)) (((w6.setCell (az g (q*3)) (.slice y0 b0 z0)).setCell (az g (q*3+1)) (.slice y1 b1 z1)).setCell (az g (q*3+2)) (.slice y2 b2 z2))/\KpG w.1.size g w (((w6.setCell (az g (q*3)) (.slice y0 b0 z0)).setCell (az g (q*3+1)) (.slice y1 b1 z1)).setCell (az g (q*3+2)) (.slice y2 b2 z2))):=ay (by
    rw[g8.o];refine⟨?_,c7.o.trans (Q0 U i5 c7.o.size).2⟩;exact e9.o w6 ⟨.slice y0 b0 z0,.slice y1 b1 z1,.slice y2 b2 z2,us,ST.vs,ST.rows,ST.ws⟩ U e3)
   clear e9 g8 b7 a5 e2 e3 a7 l0 l1 l2 l3 l4 l5 l6 s0 s1 s2 s3 g0 g1 g2 I
   try simp only[Exit.inBlock,Exit.then]
   go_wp2_with fail
   go_roundw
  all_goals first
   |exact⟨i+1,Oo,Gg,HN⟩
   |(simp[intOf];omega)
 obtain rfl:m=i:=Oo;have i1:¬((m:Int)<(m:Int)):=Oo;have k1:=HR.o.bx.c1;obtain⟨W2,e4⟩:=Ex (wr.alloc (.cells #[.slice (some (az gp 0)) m c1] 24));have e5:Bl wr W2:=by rw[e4];exact yk (bJ _ _) _
 have j1:Hh (Cl 58 #[.slice (some (az gp 0)) m c1] wr λe w'=>e=.returned (.func (.func 83) #[] #[.pointer (some (az wr.1.size 0))])/\w'=W2):=ay (by rw[e4];exact VD wr _ m c1);have e6:=HR.o.below e5;have e7:g<wr.1.size/\gp<wr.1.size/\gp≠g:=by
  obtain⟨rl,O,-⟩:=HR.o.tb;refine⟨(O.own.lt g rfl).2,(HR.o.pa.lt gp rfl).2,λe=>?_⟩;obtain⟨cur,a6⟩:=qN O.own (g:=g) rfl;obtain⟨m3,a8⟩:=qN HR.o.pa (g:=gp) rfl;rw[e,a6]at a8;simp only[Option.some.injEq,Obj.cells.injEq]at a8;exact absurd a8.2.1 Dd
 have k7:=e5.size;obtain⟨ls,h5⟩:=Ex ((List.range m).map λi=>(par i:Int):LI);have h6:ls.length=m:=by rw[h5];simp
 have h7:∀i,i<m->ls.getD i 0=(par i:Int):=λi hi=>by rw[gdR Oo];simp[h5]
 have hG:=YN W2 wr.1.size g gp c1 ls (by rw[h6,e4];exact heap_alloc_new _ _) Oo Oo e7.2.2 (λj hj=>by rw[h7 j Oo];exact e0.o _ _ e6 j Oo) Oo;rw[h6]at hG;have HG:=ay hG;have j2:=ay h7;have j3:=ay e7;obtain⟨II,h8⟩:=Ex (λpre W=>RdW w0 w.1.size (.slice (some (az g 0)) (m+1) c0) (.slice (some (az gp 0)) (m+1) c1) (.slice a2 n2 c2) prs (dnT par m (upT par T m) pre.length) W/\W2.1.size<=W.1.size/\KpG w.1.size g w W:List Nat->World->Prop);have h9:=ay h8;have j4:w.1.size<=W2.1.size:=bM c7.o.size k7;have h0:II [] W2:=by rw[h8];exact⟨e6,nR _,c7.o.trans (KpG.of (e5.mono c7.o.size))⟩
 have f7:w0.1.size<=W2.1.size:=e6.bel.size;have e8:∀s X Y,II s X->KT W2.1.size X Y->II s Y:=λs X Y h hk=>by rw[h8]at h ⊢;exact⟨h.1.kt hk f7,bM h.2.1 hk.bel.size,h.2.2.trans (KpG.of (hk.bel.mono j4))⟩
 clear hG h7 e7 h6 h5 e4;go_wp2_with (first|(go_at_call 58;refine j1.o.mono ?_;rintro e w7 ⟨rfl,m5⟩;subst w7)|fail);refine(wpIn_wide (n:=0)).1 ?_;refine jh (α:=Nat) (β:=Nat×Int) (gf:=83) (lb:=#[.pointer (some (az wr.1.size 0))]) rfl (enters_of Tryz.func83 Kl rfl) HG.o (λ_=>rfl)
  (λO h2=>KpG.trans O h2) (λl W o o' O h2 h3=>KpG.of (KT.put (B:=W2.1.size) o' O h2 h3).bel) (λ_ _ _=>trivial)
  II (λ_ _=>False) e8 (λ_ _ _ h _=>h) h0
  (λl pre x b a' W=>II pre W/\x+pre.length+1=m/\a'={ tmps:=#[.agg #[.slice (some (az g 0)) (m+1) c0,.slice (some (az gp 0)) (m+1) c1,.slice a2 n2 c2],.pointer (some (az w.1.size 0)),ai (m:Int),u3,u4,ai (x:Int),ai (par x:Int),.pointer (some (az w.1.size 0)),.slice (some (az g 0)) (m+1) c0,ai ((m:Int)+1),ai (m:Int),.pointer (some (az w.1.size 1)),.slice (some (az gp 0)) (m+1) c1,ai (m:Int),.slice (some (az gp 0)) m c1,ai (m:Int),ai (m:Int),.bool false,u18,u19,u20,u21,u22,u23,u24,u25,u26,u27,u28,u29,u30,u31,u32,u33,u34,u35,u36,.pointer (some (az w.1.size 1)),.slice (some (az gp 0)) (m+1) c1,ai (m:Int),.slice (some (az gp 0)) m c1,.func (.func 83) #[] #[.pointer (some (az wr.1.size 0))],ai (x:Int),ai (par x:Int),undef,undef,undef,undef,undef,undef,undef,undef,undef,undef,undef,undef,undef,undef,undef],defers:=[] })
  (λl pre x b a' W o o' O h2 h3 h4=>⟨e8 _ _ _ O.1 (KT.put (B:=W2.1.size) o' h2 h3 h4),O.2⟩)
  ?assign ?body ?done ?stop
 case assign=>
  rintro l pre x b X Y K k8 hI hk ⟨rfl,k9⟩ ⟨rr,l7⟩ M;have l8:=e8 _ _ _ hI hk;have l9:=j2.o x Oo;rw[l9];gi_wp2
  exact M _ _ (KeepsFrom.refl _ _) (KpG.of (bJ _ _)) ⟨l8,Oo,rfl⟩
 case body=>
  rintro l pre x b a' W k8 ⟨rr,l7⟩ ⟨hI,k9,rfl⟩;have b8:=hI;rw[h9.o]at b8;obtain⟨hR,j5,j6⟩:=b8;have hx:x<m:=Oo;have hq:=(d9.o x hx).2;obtain⟨i,d4⟩:=Ex (par x);have k2:Hh (dnT par m (upT par T m) (pre++[x]).length=(dnT par m (upT par T m) pre.length).set x (xR ((dnT par m (upT par T m) pre.length).getD x qA) ((dnT par m (upT par T m) pre.length).getD i qA))):=ay (by
   rw[d4,lA,lS];have e:m-1-pre.length=x:=Oo;show(dnT par m (upT par T m) pre.length).set (m-1-pre.length) _=_;rw[e])
  have k3:=HD.o pre.length Oo x Oo;have a9:=HD.o pre.length Oo (par x) hq;have j0:=g4.o pre.length;rw[<-d4]at hq a9 ⊢;clear d4;generalize hV:dnT par m (upT par T m) pre.length=V at *;clear hV;obtain⟨p0,m0,d0,p1,m1,d1,p2,m2,d2,c8⟩:=hR.cells (j:=x) Oo;obtain⟨r0,n0,f0,r1,n1,f1,r2,c9,f2,d3⟩:=hR.cells (j:=i) Oo;have a3:=ay c8;have a4:=ay d3;have e2:Hh (∀X,Bl W X->Cl 57 #[.agg #[.slice p0 m0 d0,.slice p1 m1 d1,.slice p2 m2 d2],.agg #[.slice r0 n0 f0,.slice r1 n1 f1,.slice r2 c9 f2]] X λe w'=>∃(q0:Option Addr) (m0 z0:Nat) (q1:Option Addr) (m1 z1:Nat) (q2:Option Addr) (m2 z2:Nat) (us:List Value),e=.returned (.agg #[.slice q0 m0 z0,.slice q1 m1 z1,.slice q2 m2 z2])/\TWr w' W.1.size ⟨.slice q0 m0 z0,.slice q1 m1 z1,.slice q2 m2 z2,us,(xR (V.getD x qA) (V.getD i qA)).vs,(xR (V.getD x qA) (V.getD i qA)).rows,(xR (V.getD x qA) (V.getD i qA)).ws⟩/\Bl W w'):=ay λX hX=>by
   refine(YO X _ _ _ _ _ _ (V.getD x qA) (V.getD i qA) (a3.o X hX).2.2.2 (a4.o X hX).2.2.2 k3 a9).mono ?_;rintro e w' ⟨q0,m0,z0,q1,m1,z1,q2,m2,z2,us,rfl,O,h2⟩;exact⟨_,_,_,_,_,_,_,_,_,us,rfl,TW.base O hX.size,bt hX h2⟩
  have b7:Hh (∀X,Bl W X->X.cell? (az w.1.size 0)=some (.slice (some (az g 0)) (m+1) c0)/\X.cell? (az g (x*3))=some (.slice p0 m0 d0)/\X.cell? (az g (x*3+1))=some (.slice p1 m1 d1)/\X.cell? (az g (x*3+2))=some (.slice p2 m2 d2)/\X.cell? (az g (i*3))=some (.slice r0 n0 f0)/\X.cell? (az g (i*3+1))=some (.slice r1 n1 f1)/\X.cell? (az g (i*3+2))=some (.slice r2 c9 f2)):=ay λX hX=>⟨(hR.bx.below hX).c0,(a3.o X hX).1,(a3.o X hX).2.1,(a3.o X hX).2.2.1,(a4.o X hX).1,(a4.o X hX).2.1,(a4.o X hX).2.2.1⟩;have a5:Hh (∀X,Bl W X->∀j,X.frozen? (az g j)=false):=ay λX hX j=>by
   obtain⟨rl,O,-⟩:=hR.tb;obtain⟨cur,hc⟩:=qN (qB O.own hX) (g:=g) rfl;unfold World.frozen?;rw[hc];simp
  have k4:Hh (∀X (t:TbR),Bl W X->TWr X W.1.size t->tvB t=xR (V.getD x qA) (V.getD i qA)->KeepsFrom W2.1.size W (((X.setCell (az g (x*3)) t.v0).setCell (az g (x*3+1)) t.v1).setCell (az g (x*3+2)) t.v2)/\KpG W2.1.size g W (((X.setCell (az g (x*3)) t.v0).setCell (az g (x*3+1)) t.v1).setCell (az g (x*3+2)) t.v2)/\II (pre++[x]) (((X.setCell (az g (x*3)) t.v0).setCell (az g (x*3+1)) t.v1).setCell (az g (x*3+2)) t.v2)):=ay λX t hX ht he=>by
   have e7:=j3.o;obtain⟨O,h2⟩:=Q0 (B:=W2.1.size) (g:=g) (o0:=x*3) (o1:=x*3+1) (o2:=x*3+2) (y0:=t.v0) (y1:=t.v1) (y2:=t.v2) hX Oo j5;refine⟨O,h2,?_⟩;rw[h9.o];refine⟨?_,bM j5 h2.size,j6.trans (Q0 hX i5 j6.size).2⟩;rw[k2.o,<-he];exact hR.put hX ht Oo
  have k6:w.1.size≠g:=λe=>by
   obtain⟨rl,O,-⟩:=hR.tb;obtain⟨cur,a6⟩:=qN O.own (g:=g) rfl;have:=hR.bx.blk;rw[e,a6]at this;simp only[Option.some.injEq,Obj.cells.injEq]at this;exact absurd this.2.1 Dd
  have a7:∀(W:World) (j:Nat) (u:Value),W.cell? (az w.1.size 0)=some (.slice (some (az g 0)) (m+1) c0)->(W.setCell (az g j) u).cell? (az w.1.size 0)=some (.slice (some (az g 0)) (m+1) c0):=λW j u hW=>by
   rw[bC _ _ _ _ Nq];exact hW
  have i2:(x:Int)<(m:Int)+1:=Oo;have i3:(i:Int)<(m:Int)+1:=Oo;obtain⟨l0,l1,l2,l3,l4,l5,l6⟩:=b7.o W.drew (d5 _);clear c8 d3 a3 a4 hR e0 d9 HU HD f9 g4 g5 k3 a9 k2 hI HR HG j2 j3 j1 h0 k1 e8 j0 e6 e5;generalize xR (V.getD x qA) (V.getD i qA)=ST at *;gi_wp2
  refine Ko (S:=λX=>X.cell? (az w.1.size 0)=some (.slice (some (az g 0)) (m+1) c0)) i4 Kl (λ⟨_,_,h⟩=>h) l0 (λI=>?_);refine wTk 0 ?_;try simp only[Act.put,List.setIfInBounds_toArray]
  refine wTk 1 ?_;try simp only[Act.put]
  refine wTk 2 ?_;try simp only[Act.put]
  refine wTk 3 ?_;try simp only[Act.put]
  refine wTk 4 ?_;try simp only[Act.put]
  refine wTk 5 ?_;try simp only[Act.put]
  refine wTk 6 ?_;try simp only[Act.put]
  refine wTk 8 ?_;try simp only[Act.put]
  refine wTk 9 ?_;try simp only[Act.put]
  refine wTk 10 ?_;try simp only[Act.put]
  refine wTk 11 ?_;try simp only[Act.put]
  refine wpAnyH_ready (rs:=[7,12]) Kl Ss ?_
  refine AllReadyH.cons rfl (λK M=>?_) (AllReadyH.cons rfl (λK M=>?_) AllReadyH.nil)
  focus
   go_simp
   refine M.out _ _ l0 (λI=>?_)
   clear M K
   try simp only[Act.put,List.setIfInBounds_toArray,List.set_cons_zero,List.set_cons_succ]
   refine wpAnyH_ready (rs:=[12]) Kl Ss ?_
   refine AllReadyH.cons rfl (λK M=>?_) AllReadyH.nil
   go_simp
   refine M.out _ _ l0 (λI=>?_)
   clear M K
   try simp only[Act.put,List.setIfInBounds_toArray,List.set_cons_zero,List.set_cons_succ]
  rotate_left;focus
   go_simp
   refine M.out _ _ l0 (λI=>?_)
   clear M K
   try simp only[Act.put,List.setIfInBounds_toArray,List.set_cons_zero,List.set_cons_succ]
   refine wpAnyH_ready (rs:=[7]) Kl Ss ?_
   refine AllReadyH.cons rfl (λK M=>?_) AllReadyH.nil
   go_simp
   refine M.out _ _ l0 (λI=>?_)
   clear M K
   try simp only[Act.put,List.setIfInBounds_toArray,List.set_cons_zero,List.set_cons_succ]
  all_goals
   refine wpAnyH_ready (rs:=[13]) Kl Ss ?_
   refine AllReadyH.cons rfl (λK M=>?_) AllReadyH.nil
   go_simp
   go_at_call 57
   refine(e2.o _ (d5 _)).mono ?_
   rintro e w6 ⟨y0,b0,z0,y1,b1,z1,y2,b2,z2,us,rfl,e3,U⟩
   obtain⟨s0,s1,s2,s3,-,-,-⟩:=b7.o w6 U
   have g0:=a5.o w6 U (x*3)
   have g1:=a5.o w6 U (x*3+1)
   have g2:=a5.o w6 U (x*3+2)
   go_wp2_with fail
   refine M.out _ _ s0 (λI=>?_)
   clear M K
   try simp only[Act.put,List.setIfInBounds_toArray,List.set_cons_zero,List.set_cons_succ]
   refine wTk 14 ?_
   try simp only[Act.put,List.setIfInBounds_toArray]
   refine wpAnyH_ready (rs:=[15]) Kl Ss ?_
   refine AllReadyH.cons rfl (λK M=>?_) AllReadyH.nil
   go_simp
   refine M.out _ _ (a7 _ _ _ (a7 _ _ _ (a7 _ _ _ s0))) (λI=>?_)
   clear M K
   refine wpAnyH_done Kl ?_ _
   exact k4.o w6 ⟨.slice y0 b0 z0,.slice y1 b1 z1,.slice y2 b2 z2,us,ST.vs,ST.rows,ST.ws⟩ U e3 rfl
 case done=>
  intro D W hD hI M;have b8:=hI;rw[h9.o,qBI]at b8;have hp:=KT.put (B:=W2.1.size) (.deferred none) hD M rfl;have k5:=b8.1.kt hp f7;simp only[Exit.inBlock];exact⟨Ss,Or.inl ⟨D,_,rfl,run_takeDeferred M,.tuple #[],results_none rfl _ _ _,⟨_,rfl⟩,k5.tb,k5.bel,b8.2.2.trans (KpG.of (hp.bel.mono j4))⟩⟩
 case stop=>
  rintro D c W _ h _;exact h.elim
end Go.Proofs.YtcnfapnfmnolbaaGreat
