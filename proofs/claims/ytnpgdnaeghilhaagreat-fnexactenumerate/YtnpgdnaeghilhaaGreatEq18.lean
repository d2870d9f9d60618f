import Derived.Deep.RegionHeld
import Derived.OrdersIn
import Derived.Test.YtnpgdnaeghilhaaGreatEq17
import Derived.Test.YtnpgdnaeghilhaaGreatEq16
set_option maxHeartbeats 40000000
set_option maxRecDepth 1000000
namespace Go.Proofs.YtnpgdnaeghilhaaGreat
open Go.Proofs.Tryz Go.RowKit
variable {B g l n p m c:Nat}{W w w0 X Y w6:World}{P:Program}{a:Act}{Q:Exit->Act->WP}{ops:Array Oper}
theorem qDz{o:Oper}{K V:Act->WP}(I:∀c,o.op≠.defer c)(M:∀a w,K a w->V a w)(h:o.wp P a w K Q):o.wpIn (Fence.wide.inRound l) n P a w V Q:=by
 unfold Oper.wpIn;refine⟨λf _=>trivial,?_⟩;rw[Oper.semAt_eq _ _ _ I];unfold Oper.wp at h;generalize (execOp a.eval o).run P w=r at *;cases r with
 |ok x w'=>
  cases x <;> simp only[Oper.uponIn,Oper.upon]at h |- <;> first
   |exact M _ _ h
   |exact⟨(λO=>by cases O),CallsIn.inRound l (callsIn_wide.2 (h.mono λe w'' he=>by cases e <;> first|exact M _ _ he|exact he))⟩
   |exact⟨(λO=>by cases O),λc cs _=>by obtain⟨v,w'',r,s⟩:=h c cs;exact⟨v,w'',M _ _ r,stepsIn_wide.2 s⟩⟩
   |exact h.elim
 |halt x w'=>cases x <;> simp only[Oper.uponIn,Oper.upon]at h |- <;> exact h
theorem jC(I:∀(i:Nat) (o:Oper),ops[i]?=some o->∀c,o.op≠.defer c)(K:¬LetsOut Q):∀(ls:LN) (a:Act) (w:World),wpOps P ops Q ls a w->wpOpsIn (Fence.wide.inRound l) n P ops Q ls a w
 |[],_,_,h=>h
 |i::rest,a,w,h=>by
  rw[wpOps_cons]at h;rw[wpOpsIn_cons];unfold wpOp at h;unfold wpOpIn;cases ho:ops[i]? with
  |none=>
   simp only[ho]at h |-;exact jC I K rest a w h
  |some o=>
   simp only[ho]at h |-;by_cases M:Region.wanted o (yielded ops a.tmps)=true
   .rw[fE M]at h |-;rcases h with h|⟨-,h⟩;exact qDz (I i o ho) (λa w=>jC I K rest a w) h;exact absurd h K
   rw[fF M]at h |-;exact⟨λf _=>trivial,jC I K rest _ _ h⟩
def qJX(o:Oper):Bool:=match o.op with| .defer _=>false|_=>true
theorem qBS{id}{S:WP}(K:P.follows .mixedOrders=true)(hd:ops.all qJX=true)(M:¬LetsOut Q)(O:S w.drew)(h:S w.drew->wpAnyH P .any ops Q S ops.size (Array.replicate ops.size false) a w.drew):(Code.region id ops true).wpIn (Fence.wide.inRound l) n P Q a w:=by
 refine wpIn_region_draw λt=>jC (λi o ho c e=>?_) M _ _ _ ?_;have I:=Array.all_eq_true_iff_forall_mem.1 hd o (Array.mem_of_getElem? ho);unfold qJX at I;rw[e]at I;cases I
 simp only[Region.schedule,K,Bool.true_or,if_true];exact wpAny_sound _ t _ a _ (wpAny_of_held _ _ _ _ (h O))
open Meet Go.Shelf
attribute [local go_sem] Oper.semAt_some
theorem js{t}(h:qW t=true):t.vs.length<=1099511627776/\qS t.rows:=⟨(ZT h).vs,(ZT h).rows⟩
theorem VU W{a0 a1 a2 b0 K b2 a b}(hA:IT W a0 a1 a2 a.vs a.rows a.ws)(hB:IT W b0 K b2 b.vs b.rows b.ws)(M:qW a=true)(hb:qW b=true):
 Cl 89 #[.agg #[a0,a1,a2],.agg #[b0,K,b2]] W λe w'=>∃(O:OA) (m0 z0:Nat) (V:OA) (m1 z1:Nat) (q2:OA) (m2 z2:Nat) (us:LV),e=.returned (.agg #[.slice O m0 z0,.slice V m1 z1,.slice q2 m2 z2])/\TWr w' W.1.size ⟨.slice O m0 z0,.slice V m1 z1,.slice q2 m2 z2,us,(xk a b).vs,(xk a b).rows,(xk a b).ws⟩/\Bl W w':=by
 apply (Ju W K hA hB (js M).1 (js M).2 (js hb).1 (js hb).2 M hb).mono;rintro e w' ⟨x0,x1,x2,us,rfl,I,hb'⟩;have⟨O,z0,e0⟩:=qG I.o0;have⟨V,z1,e1⟩:=qG I.rq.own;have⟨q2,z2,e2⟩:=qG I.o2;subst e0 e1 e2;exact⟨_,_,_,_,_,_,_,_,_,us,rfl,I.tw,hb'⟩
theorem RdW.kt{x0 x1 x2 prs T}(h:RdW w0 p x0 x1 x2 prs T X)(O:KT B X Y)(hB:w0.1.size<=B):RdW w0 p x0 x1 x2 prs T Y:=by
 have⟨⟨rl,I,h2⟩,V,h4,h5⟩:=h;have M:∀{e:TypeId} {b s n:Nat} {v:Value} {xs:LV},X.ownsRow b e s v n xs->e≠268->e≠4->Y.ownsRow b e s v n xs:=λho g1 g2=>qD ho λg hg=>by
  have⟨cur,hc⟩:=qK ho hg;exact O.cel g _ _ _ hc g1 g2
 exact⟨⟨rl,⟨M I.own Dd Dd,λt K=>⟨M (I.each t K).o0 Dd Dd,⟨M (I.each t K).rq.own Dd Dd,(I.each t K).rq.len,λi hi=>M ((I.each t K).rq.each i hi) Dd Dd,(I.each t K).rq.ap⟩,M (I.each t K).o2 Dd Dd,(I.each t K).a02,(I.each t K).a0,(I.each t K).a2⟩,I.ap⟩,h2⟩,⟨(O.cel p _ _ _ V.blk Dd Dd).trans V.blk⟩,M h4 Dd Dd,h5.trans (O.bel.mono hB)⟩
def qJS(Q:Exit->Act->WP):Exit->Act->WP
 | .panic _,_,_=>False
 |e,a,w=>Q e a w
theorem qGa{e}(h:qJS Q e a w):Q e a w:=by
 cases e <;> first|exact h|exact h.elim
theorem Z4{o0 o1 o2 y0 y1 y2}(hb:Bl W w6)(O:g<B)(hB:B<=W.1.size):KeepsFrom B W (((w6.setCell (az g o0) y0).setCell (az g o1) y1).setCell (az g o2) y2)/\KpG B g W (((w6.setCell (az g o0) y0).setCell (az g o1) y1).setCell (az g o2) y2):=by
 have hs:(((sC w6 g o0 y0).setCell (az g o1) y1).setCell (az g o2) y2).1.size=w6.1.size:=Ss;have I:∀k,k≠g->(((sC w6 g o0 y0).setCell (az g o1) y1).setCell (az g o2) y2).1[k]?=w6.1[k]?:=λk I=>by
  rw[eG I,eG I,eG I]
 refine⟨⟨by rw[hs];exact hb.size,λk o M K _=>?_⟩,⟨by rw[hs];exact hb.size,λk M K=>?_⟩⟩;rw[I k Oo,hb.block k (qZ K)];exact K;rw[I k K,hb.block k Oo]
theorem qBJ w g c0{gp c1}{a2:OA}{n2 c2}T{prs:LI}{par}(hw:Bl w0 w)(hT:∃rl,TBs w w0.1.size (sZ g 0 (m+1) c0) rl/\rl.map tvB=T)(i4:T.length=m+1)(f9:prs.length=m+1)(hP:w.ownsRow w0.1.size 3 1 (sZ gp 0 (m+1) c1) (m+1) (prs.map ai))(hm:m<=12)(c7:∀i,i<m->prs.getD i 0=(par i:Int)/\par i<=m)
 (hU:∀n,n<=m->∀i,i<=m->qW ((upT par T n).getD i qA)=true) (hD:∀n,n<=m->∀i,i<=m->qW ((dnT par m (upT par T m) n).getD i qA)=true):
 Cl 68 #[.agg #[sZ g 0 (m+1) c0,sZ gp 0 (m+1) c1,.slice a2 n2 c2]] w λe w'=>(∃v,e=.returned v)/\(∃rl,TBs w' w0.1.size (sZ g 0 (m+1) c0) rl/\rl.map tvB=dnT par m (upT par T m) m)/\Bl w0 w'/\KpG w.1.size g w w':=by
 have d6:∀W:World,Bl W W.drew:=λW=>eB.drew;have⟨W1,d7⟩:=Ex (w.alloc (.cells #[sZ g 0 (m+1) c0,sZ gp 0 (m+1) c1,.slice a2 n2 c2] 93));have d8:Hh (Bl w W1):=ay (by rw[d7];exact x8 eB _);have d9:Hh (RdW w0 w.1.size (sZ g 0 (m+1) c0) (sZ gp 0 (m+1) c1) (.slice a2 n2 c2) prs T W1):=ay (by
  have⟨rl,O,h2⟩:=hT;exact⟨⟨rl,O.below d8,h2⟩,by rw[d7];exact Bx3.made _ _ _ _ _,by rw[f9];exact qB hP d8,bt hw d8⟩)
 have i6:g<w.1.size:=by
  obtain⟨rl,O,-⟩:=hT;exact(O.own.lt g rfl).2
 have m5:m+1<=c1:=by
  rcases hP.2 with ⟨O,-⟩|⟨g',cap,cur,e,-,-,O,-⟩;cases O
  simp only[vI]at e;obtain⟨-,-,rfl⟩:=e;exact O
 have HD:=ay hD;change Hh _ at c7 hU;have g4:Hh (∀n,(upT par T n).length=m+1):=ay λn=>by rw[XZ,i4]
 have g5:Hh (∀n,(dnT par m (upT par T m) n).length=m+1):=ay λn=>by rw[UU,XZ,i4]
 have e2:Hh (∀(V:List TbV) (W:World),RdW w0 w.1.size (sZ g 0 (m+1) c0) (sZ gp 0 (m+1) c1) (.slice a2 n2 c2) prs V W->∀i,i<m->aC W gp i (ai (par i:Int))):=ay λV W h i hi=>by
  have O:=h.pa;rw[f9]at O;have O:=O.cellAt i Oo;rw[bK,gE Oo,<-gdR (d:=0) Oo,(c7 i hi).1]at O;exact O
 clear hT hP hw hD f9;refine(callsIn_wide (n:=0)).1 (callsIn_of_wp_marks func68 rfl trivial ?_ rfl);simp only[ntmps68,List.size_toArray,cQ,List.length_nil,Nat.reduceAdd,Nat.reduceSub,Array.replicate_succ,Array.replicate_zero,List.push_toArray,List.append_toArray,List.nil_append,List.cons_append];refine wpIn_mono ?_ (λe a w h=>qGa h);refine(wpIn_wide).2 ?_;go_upto_region 1 with fail;rw[<-d7];clear d7;have k0:=d9.o.bx.c0;have k1:=d9.o.bx.c1;have g6:Hh (∀i,upT par T (i+1)=(upT par T i).set (par i) (xk ((upT par T i).getD (par i) qA) ((upT par T i).getD i qA))):=ay λi=>rfl;have i8:Hh (RdW w0 w.1.size (sZ g 0 (m+1) c0) (sZ gp 0 (m+1) c1) (.slice a2 n2 c2) prs (upT par T 0) W1):=ay d9;clear d9;go_wp2_with fail;clear k0 k1;go_loopw [16] (λt wr=>∃(i:Nat),i<=m/\t=ai i/\Hh (RdW w0 w.1.size (sZ g 0 (m+1) c0) (sZ gp 0 (m+1) c1) (.slice a2 n2 c2) prs (upT par T i) wr/\KpG w.1.size g w wr)) (λt _=>m-(intOf t).toNat);exact⟨0,eC,rfl,ay ⟨i8,KpG.of d8⟩⟩;clear i8;obtain⟨i,g7,rfl,g8⟩:=hrel;have HR:=ay g8.1;have c8:=ay g8.2;clear g8;by_cases i9:i<m
 .have i1:=aV i9;have e1:=e2 _ _ HR i i9;have hq:=(c7 i i9).2;have⟨q,j0⟩:=Ex (par i);have g9:=ay (g6 i);have h5:=hU i g7 _ hq;have b7:=hU i g7 i g7;have j1:=g4 i;rw[<-j0]at e1 hq g9 h5;clear j0;generalize hV:upT par T i=V at *;clear hV;have⟨p0,m0,d0,p1,m1,d1,p2,m2,d2,c9⟩:=HR.o.cells (j:=q) Oo;have⟨r0,n0,f0,r1,n1,f1,r2,d3,f2,d4⟩:=HR.o.cells (j:=i) Oo;have a4:=ay c9;have a5:=ay d4;have e3:Hh (∀W,Bl wr W->Cl 89 #[.agg #[.slice p0 m0 d0,.slice p1 m1 d1,.slice p2 m2 d2],.agg #[.slice r0 n0 f0,.slice r1 n1 f1,.slice r2 d3 f2]] W λe w'=>∃(q0:OA) (m0 z0:Nat) (q1:OA) (m1 z1:Nat) (q2:OA) (m2 z2:Nat) (us:LV),e=.returned (.agg #[.slice q0 m0 z0,.slice q1 m1 z1,.slice q2 m2 z2])/\TWr w' wr.1.size ⟨.slice q0 m0 z0,.slice q1 m1 z1,.slice q2 m2 z2,us,(xk (V.getD q qA) (V.getD i qA)).vs,(xk (V.getD q qA) (V.getD i qA)).rows,(xk (V.getD q qA) (V.getD i qA)).ws⟩/\Bl wr w'):=ay λW hW=>by
   apply (VU W (a4.o W hW).2.2.2 (a5.o W hW).2.2.2 h5 b7).mono;rintro e w' ⟨q0,m0,z0,q1,m1,z1,q2,m2,z2,us,rfl,O,h2⟩;exact⟨_,_,_,_,_,_,_,_,_,us,rfl,TW.base O hW.size,bt hW h2⟩
  have b8:Hh (∀W,Bl wr W->aC W w.1.size 0 (sZ g 0 (m+1) c0)/\aC W g (q*3) (.slice p0 m0 d0)/\aC W g (q*3+1) (.slice p1 m1 d1)/\aC W g (q*3+2) (.slice p2 m2 d2)/\aC W g (i*3) (.slice r0 n0 f0)/\aC W g (i*3+1) (.slice r1 n1 f1)/\aC W g (i*3+2) (.slice r2 d3 f2)):=ay λW hW=>⟨(HR.o.bx.below hW).c0,(a4 W hW).1,(a4 W hW).2.1,(a4 W hW).2.2.1,(a5 W hW).1,(a5 W hW).2.1,(a5 W hW).2.2.1⟩;have a6:Hh (∀W,Bl wr W->∀j,W.frozen? (az g j)=false):=ay λW hW j=>by
   obtain⟨rl,O,-⟩:=HR.o.tb;have⟨cur,hc⟩:=qK (qB O.own hW) (g:=g) rfl;unfold World.frozen?;rw[hc];simp
  have f7:Hh (∀W (t:TbR),Bl wr W->TWr W wr.1.size t->RdW w0 w.1.size (sZ g 0 (m+1) c0) (sZ gp 0 (m+1) c1) (.slice a2 n2 c2) prs (V.set q (tvB t)) (((sC W g (q*3) t.v0).setCell (az g (q*3+1)) t.v1).setCell (az g (q*3+2)) t.v2)):=ay λW t hW ht=>HR.o.put hW ht Oo;have k8:w.1.size≠g:=λe=>by
   obtain⟨rl,O,-⟩:=HR.o.tb;have⟨cur,a7⟩:=qK O.own (g:=g) rfl;have:=HR.o.bx.blk;rw[e,a7]at this;simp only[oI,Obj.cells.injEq]at this;exact absurd this.2.1 Dd
  have i2:(q:Int)<m+1:=Oo;have i3:(i:Int)<m+1:=Oo;clear c9 d4 a4 a5 HR e2 c7 hU HD g4 g5 g6 h5 b7;generalize xk (V.getD q qA) (V.getD i qA)=ST at *;go_upto_region 5 with fail;have⟨l0,l1,l2,l3,l4,l5,l6⟩:=b8 _ (d6 _);have a8:∀(W:World) (j:Nat) (u:Value),aC W w.1.size 0 (sZ g 0 (m+1) c0)->(W.setCell (az g j) u).cell? (az w.1.size 0)=some (sZ g 0 (m+1) c0):=λW j u hW=>by
   rw[eE Nq];exact hW
  refine wp_region_held_drew (S:=λX=>X.cell? (az _ 0)=some (sZ g 0 _ _)) Kl l0 (λI=>?_);refine wTk 0 ?_;try simp only[Act.put,aO]
  refine wTk 1 ?_;try simp only[Act.put]
  refine wTk 2 ?_;try simp only[Act.put]
  refine wTk 3 ?_;try simp only[Act.put]
  refine wTk 4 ?_;try simp only[Act.put]
  refine wTk 5 ?_;try simp only[Act.put]
  refine wTk 6 ?_;try simp only[Act.put]
  refine wTk 8 ?_;try simp only[Act.put]
  refine wTk 9 ?_;try simp only[Act.put]
  refine wTk 10 ?_;try simp only[Act.put]
  refine wTk 11 ?_;try simp only[Act.put]
  refine wpAnyH_ready (rs:=[7,12]) Kl Ss ?_
  refine AllReadyH.cons rfl (λK M=>?_) (AllReadyH.cons rfl (λK M=>?_) AllReadyH.nil)
  focus
   go_simp
   refine M.out _ _ l0 (λI=>?_)
   clear M K
   try simp only[Act.put,aO,bk,bn]
   refine wpAnyH_ready (rs:=[12]) Kl Ss ?_
   refine AllReadyH.cons rfl (λK M=>?_) AllReadyH.nil
   go_simp
   refine M.out _ _ l0 (λI=>?_)
   clear M K
   try simp only[Act.put,aO,bk,bn]
  rotate_left;focus
   go_simp
   refine M.out _ _ l0 (λI=>?_)
   clear M K
   try simp only[Act.put,aO,bk,bn]
   refine wpAnyH_ready (rs:=[7]) Kl Ss ?_
   refine AllReadyH.cons rfl (λK M=>?_) AllReadyH.nil
   go_simp
   refine M.out _ _ l0 (λI=>?_)
   clear M K
   try simp only[Act.put,aO,bk,bn]
  all_goals
   refine wpAnyH_ready (rs:=[13]) Kl Ss ?_
   refine AllReadyH.cons rfl (λK M=>?_) AllReadyH.nil
   go_simp
   go_at_call 89
   apply (e3.o _ (d6 _)).mono
   rintro e w6 ⟨y0,b0,z0,y1,b1,z1,y2,b2,z2,us,rfl,e4,a3⟩
   obtain⟨s0,s1,s2,s3,-,-,-⟩:=b8 _ a3
   have g0:=a6 _ a3 (q*3)
   have g1:=a6 _ a3 (q*3+1)
   have g2:=a6 _ a3 (q*3+2)
   go_wp2_with fail
   refine M.out _ _ s0 (λI=>?_)
   clear M K
   try simp only[Act.put,aO,bk,bn]
   refine wTk 14 ?_
   try simp only[Act.put,aO]
   refine wpAnyH_ready (rs:=[15]) Kl Ss ?_
   refine AllReadyH.cons rfl (λK M=>?_) AllReadyH.nil
   go_simp
   refine M.out _ _ (a8 _ _ _ (a8 _ _ _ (a8 _ _ _ s0))) (λI=>?_)
   clear M K
   try simp only[Act.put,aO,bk,bn]
   refine wpAnyH_done Kl ?_ _
   have HN:Hh (RdW w0 w.1.size (sZ g 0 (m+1) c0) (sZ gp 0 (m+1) c1) (.slice a2 n2 c2) prs (upT par T (i+1)) (((w6.setCell (az g (q*3)) (.slice y0 b0 z0)).setCell (az g (q*3+1)) (.slice y1 b1 z1)).setCell (az g (q*3+2)) (.slice y2 b2 z2))/\KpG w.1.size g w (((w6.setCell (az g (q*3)) (.slice y0 b0 z0)).setCell (az g (q*3+1)) (.slice y1 b1 z1)).setCell (az g (q*3+2)) (.slice y2 b2 z2))):=ay (by
    rw[g9.o];refine⟨?_,c8.o.trans (Z4 a3 i6 c8.o.size).2⟩;exact f7 _ _ a3 e4)
   clear f7 g9 b8 a6 e3 e4 a8 l0 l1 l2 l3 l4 l5 l6 s0 s1 s2 s3 g0 g1 g2 I
   try simp only[Exit.inBlock,Exit.then]
   go_wp2
   go_roundw
  all_goals first
   |exact⟨i+1,Oo,Gg,HN⟩
   |(simp[intOf];omega)
 obtain rfl:m=i:=Oo;have i1:=aY m;have k1:=HR.o.bx.c1;have⟨W2,e5⟩:=Ex (wr.alloc (.cells #[sZ gp 0 m c1] 24));have e6:Bl wr W2:=by rw[e5];exact x8 eB _
 have j2:Hh (Cl 90 #[sZ gp 0 m c1] wr λe w'=>e=.returned (.func (.func 128) #[] #[.pointer (some (az wr.1.size 0))])/\w'=W2):=ay (by rw[e5];exact UR m);have e7:=HR.o.below e6;have e8:g<wr.1.size/\gp<wr.1.size/\gp≠g:=by
  obtain⟨rl,O,-⟩:=HR.o.tb;refine⟨(O.own.lt g rfl).2,(HR.o.pa.lt gp rfl).2,λe=>?_⟩;have⟨cur,a7⟩:=qK O.own (g:=g) rfl;have⟨m4,a9⟩:=qK HR.o.pa (g:=gp) rfl;rw[e,a7]at a9;simp only[oI,Obj.cells.injEq]at a9;exact absurd a9.2.1 Dd
 have hs2:=e6.size;have⟨ls,h6⟩:=Ex ((List.range m).map λi=>(par i:Int));have h7:ls.length=m:=by rw[h6];simp
 have h8:∀i,i<m->ls.getD i 0=(par i:Int):=λi hi=>by rw[gdR Oo];simp[h6]
 have hG:=VT W2 wr.1.size g c1 ls (by rw[h7,e5];exact eO) Oo Oo e8.2.2 (λj hj=>by rw[h8 j Oo];exact e2 _ _ e7 j Oo) Oo;rw[h7]at hG;have j4:=ay e8;change Hh _ at hG h8;obtain⟨II,h9⟩:=Ex (λpre W=>RdW w0 w.1.size (sZ g 0 (m+1) c0) (sZ gp 0 (m+1) c1) (.slice a2 n2 c2) prs (dnT par m (upT par T m) pre.length) W/\W2.1.size<=W.1.size/\KpG w.1.size g w W:LN->WP);have i0:=ay h9;have j5:=bM c8.o.size hs2
 have f8:=e7.bel.size;have e9:∀s X Y,II s X->KT W2.1.size X Y->II s Y:=λs X Y h hk=>by rw[h9]at h |-;exact⟨h.1.kt hk f8,bM h.2.1 hk.bel.size,h.2.2.trans (KpG.of (hk.bel.mono j5))⟩
 clear e8 h7 h6 e5;go_wp2_with (go_at_call 90;apply j2.o.mono;rintro e w7 ⟨rfl,hw7⟩;subst w7);refine(wpIn_wide (n:=0)).1 ?_;refine QB (α:=Nat) (β:=Nat×Int) (gf:=128) (lb:=#[.pointer (some (az wr.1.size 0))]) rfl (enters_of func128 Kl rfl) hG.o (λ_=>rfl)
  (λO h2=>KpG.trans O h2) (λl W o o' O h2 h3=>KpG.of (KT.put (B:=W2.1.size) o' O h2 h3).bel) (λ_ _ _=>trivial)
  II (λ_ _=>False) e9 (λ_ _ _ h _=>h) (by rw[h9];exact⟨e7,eA,c8.o.trans (KpG.of (e6.mono c8.o.size))⟩)
  (λl pre x b a' W=>II pre W/\x+pre.length+1=m/\a'={ tmps:=#[.agg #[sZ g 0 (m+1) c0,sZ gp 0 (m+1) c1,.slice a2 n2 c2],.pointer (some (az w.1.size 0)),ai (m:Int),u3,u4,ai (x:Int),ai (par x:Int),.pointer (some (az w.1.size 0)),sZ g 0 (m+1) c0,ai ((m:Int)+1),ai (m:Int),.pointer (some (az w.1.size 1)),sZ gp 0 (m+1) c1,ai (m:Int),sZ gp 0 m c1,ai (m:Int),ai (m:Int),.bool false,u18,u19,u20,u21,u22,u23,u24,u25,u26,u27,u28,u29,u30,u31,u32,u33,u34,u35,u36,.pointer (some (az w.1.size 1)),sZ gp 0 (m+1) c1,ai (m:Int),sZ gp 0 m c1,.func (.func 128) #[] #[.pointer (some (az wr.1.size 0))],ai (x:Int),ai (par x:Int),undef,undef,undef,undef,undef,undef,undef,undef,undef,undef,undef,undef,undef,undef,undef],defers:=[] })
  (λl pre x b a' W o o' O h2 h3 h4=>⟨e9 _ _ _ O.1 (KT.put (B:=W2.1.size) o' h2 h3 h4),O.2⟩)
  ?assign ?body ?done ?stop
 case assign=>
  rintro l pre x b X Y K k9 hI hk ⟨rfl,l7⟩ ⟨rr,l8⟩ M;have m3:=h8 x Oo;rw[m3];gi_wp2
  exact M _ _ (KeepsFrom.refl _ _) (KpG.of eB) ⟨e9 _ _ _ hI hk,Oo,rfl⟩
 case body=>
  rintro l pre x b a' W k9 ⟨rr,l8⟩ ⟨hI,l7,rfl⟩;have b9:=hI;rw[i0.o]at b9;obtain⟨hR,j6,k3⟩:=b9;have hq:=(c7 x Oo).2;obtain⟨i,d5⟩:=Ex (par x);have k4:Hh (dnT par m (upT par T m) (pre++[x]).length=(dnT par m (upT par T m) pre.length).set x (xk ((dnT par m (upT par T m) pre.length).getD x qA) ((dnT par m (upT par T m) pre.length).getD i qA))):=ay (by
   rw[d5,lA,lS];have e:m-1-pre.length=x:=Oo;show(dnT par m (upT par T m) pre.length).set (m-1-pre.length) _=_;rw[e])
  have k5:=HD pre.length Oo x Oo;have b7:=HD pre.length Oo _ hq;have j1:=g5 pre.length;rw[<-d5]at hq b7 |-;clear d5;generalize hV:dnT par m (upT par T m) pre.length=V at *;clear hV;obtain⟨p0,m0,d0,p1,m1,d1,p2,m2,d2,c9⟩:=hR.cells (j:=x) Oo;obtain⟨r0,n0,f0,r1,n1,f1,r2,d3,f2,d4⟩:=hR.cells (j:=i) Oo;have a4:=ay c9;have a5:=ay d4;have e3:Hh (∀X,Bl W X->Cl 89 #[.agg #[.slice p0 m0 d0,.slice p1 m1 d1,.slice p2 m2 d2],.agg #[.slice r0 n0 f0,.slice r1 n1 f1,.slice r2 d3 f2]] X λe w'=>∃(q0:OA) (m0 z0:Nat) (q1:OA) (m1 z1:Nat) (q2:OA) (m2 z2:Nat) (us:LV),e=.returned (.agg #[.slice q0 m0 z0,.slice q1 m1 z1,.slice q2 m2 z2])/\TWr w' W.1.size ⟨.slice q0 m0 z0,.slice q1 m1 z1,.slice q2 m2 z2,us,(xk (V.getD x qA) (V.getD i qA)).vs,(xk (V.getD x qA) (V.getD i qA)).rows,(xk (V.getD x qA) (V.getD i qA)).ws⟩/\Bl W w'):=ay λX hX=>by
   apply (VU X (a4.o X hX).2.2.2 (a5.o X hX).2.2.2 k5 b7).mono;rintro e w' ⟨q0,m0,z0,q1,m1,z1,q2,m2,z2,us,rfl,O,h2⟩;exact⟨_,_,_,_,_,_,_,_,_,us,rfl,TW.base O hX.size,bt hX h2⟩
  have b8:Hh (∀X,Bl W X->X.cell? (az w.1.size 0)=some (sZ g 0 (m+1) c0)/\X.cell? (az g (x*3))=some (.slice p0 m0 d0)/\X.cell? (az g (x*3+1))=some (.slice p1 m1 d1)/\X.cell? (az g (x*3+2))=some (.slice p2 m2 d2)/\X.cell? (az g (i*3))=some (.slice r0 n0 f0)/\X.cell? (az g (i*3+1))=some (.slice r1 n1 f1)/\X.cell? (az g (i*3+2))=some (.slice r2 d3 f2)):=ay λX hX=>⟨(hR.bx.below hX).c0,(a4 X hX).1,(a4 X hX).2.1,(a4 X hX).2.2.1,(a5 X hX).1,(a5 X hX).2.1,(a5 X hX).2.2.1⟩;have a6:Hh (∀X,Bl W X->∀j,X.frozen? (az g j)=false):=ay λX hX j=>by
   obtain⟨rl,O,-⟩:=hR.tb;obtain⟨cur,hc⟩:=qK (qB O.own hX) (g:=g) rfl;unfold World.frozen?;rw[hc];simp
  have k6:Hh (∀X (t:TbR),Bl W X->TWr X W.1.size t->tvB t=xk (V.getD x qA) (V.getD i qA)->KeepsFrom W2.1.size W (((X.setCell (az g (x*3)) t.v0).setCell (az g (x*3+1)) t.v1).setCell (az g (x*3+2)) t.v2)/\KpG W2.1.size g W (((X.setCell (az g (x*3)) t.v0).setCell (az g (x*3+1)) t.v1).setCell (az g (x*3+2)) t.v2)/\II (pre++[x]) (((X.setCell (az g (x*3)) t.v0).setCell (az g (x*3+1)) t.v1).setCell (az g (x*3+2)) t.v2)):=ay λX t hX ht he=>by
   have e8:=j4.o;obtain⟨O,h2⟩:=Z4 (g:=g) (o0:=x*3) (o1:=x*3+1) (o2:=x*3+2) (y0:=t.v0) (y1:=t.v1) (y2:=t.v2) hX Oo j6;refine⟨O,h2,?_⟩;rw[i0.o];refine⟨?_,bM j6 h2.size,k3.trans (Z4 hX i6 k3.size).2⟩;rw[k4.o,<-he];exact hR.put hX ht Oo
  have k8:w.1.size≠g:=λe=>by
   obtain⟨rl,O,-⟩:=hR.tb;obtain⟨cur,a7⟩:=qK O.own (g:=g) rfl;have:=hR.bx.blk;rw[e,a7]at this;simp only[oI,Obj.cells.injEq]at this;exact absurd this.2.1 Dd
  have a8:∀(W:World) (j:Nat) (u:Value),W.cell? (az w.1.size 0)=some (sZ g 0 (m+1) c0)->(W.setCell (az g j) u).cell? (az w.1.size 0)=some (sZ g 0 (m+1) c0):=λW j u hW=>by
   rw[eE Nq];exact hW
  have i2:(x:Int)<m+1:=Oo;have i3:(i:Int)<m+1:=Oo;obtain⟨l0,l1,l2,l3,l4,l5,l6⟩:=b8 _ (d6 _);clear c9 d4 a4 a5 hR e2 c7 hU HD g4 g5 g6 k5 b7 k4 hI HR hG h8 j4 j2 k1 e9 j1 e7 e6;generalize xk (V.getD x qA) (V.getD i qA)=ST at *;gi_wp2
  refine qBS (S:=λX=>X.cell? (az _ 0)=some (sZ g 0 _ _)) Kl Kl (λ⟨_,_,h⟩=>h) l0 (λI=>?_);refine wTk 0 ?_;try simp only[Act.put,aO]
  refine wTk 1 ?_;try simp only[Act.put]
  refine wTk 2 ?_;try simp only[Act.put]
  refine wTk 3 ?_;try simp only[Act.put]
  refine wTk 4 ?_;try simp only[Act.put]
  refine wTk 5 ?_;try simp only[Act.put]
  refine wTk 6 ?_;try simp only[Act.put]
  refine wTk 8 ?_;try simp only[Act.put]
  refine wTk 9 ?_;try simp only[Act.put]
  refine wTk 10 ?_;try simp only[Act.put]
  refine wTk 11 ?_;try simp only[Act.put]
  refine wpAnyH_ready (rs:=[7,12]) Kl Ss ?_
  refine AllReadyH.cons rfl (λK M=>?_) (AllReadyH.cons rfl (λK M=>?_) AllReadyH.nil)
  focus
   go_simp
   refine M.out _ _ l0 (λI=>?_)
   clear M K
   try simp only[Act.put,aO,bk,bn]
   refine wpAnyH_ready (rs:=[12]) Kl Ss ?_
   refine AllReadyH.cons rfl (λK M=>?_) AllReadyH.nil
   go_simp
   refine M.out _ _ l0 (λI=>?_)
   clear M K
   try simp only[Act.put,aO,bk,bn]
  rotate_left;focus
   go_simp
   refine M.out _ _ l0 (λI=>?_)
   clear M K
   try simp only[Act.put,aO,bk,bn]
   refine wpAnyH_ready (rs:=[7]) Kl Ss ?_
   refine AllReadyH.cons rfl (λK M=>?_) AllReadyH.nil
   go_simp
   refine M.out _ _ l0 (λI=>?_)
   clear M K
   try simp only[Act.put,aO,bk,bn]
  all_goals
   refine wpAnyH_ready (rs:=[13]) Kl Ss ?_
   refine AllReadyH.cons rfl (λK M=>?_) AllReadyH.nil
   go_simp
   go_at_call 89
   apply (e3.o _ (d6 _)).mono
   rintro e w6 ⟨y0,b0,z0,y1,b1,z1,y2,b2,z2,us,rfl,e4,a3⟩
   obtain⟨s0,s1,s2,s3,-,-,-⟩:=b8 _ a3
   have g0:=a6 _ a3 (x*3)
   have g1:=a6 _ a3 (x*3+1)
   have g2:=a6 _ a3 (x*3+2)
   go_wp2_with fail
   refine M.out _ _ s0 (λI=>?_)
   clear M K
   try simp only[Act.put,aO,bk,bn]
   refine wTk 14 ?_
   try simp only[Act.put,aO]
   refine wpAnyH_ready (rs:=[15]) Kl Ss ?_
   refine AllReadyH.cons rfl (λK M=>?_) AllReadyH.nil
   go_simp
   refine M.out _ _ (a8 _ _ _ (a8 _ _ _ (a8 _ _ _ s0))) (λI=>?_)
   clear M K
   refine wpAnyH_done Kl ?_ _
   exact k6.o w6 ⟨.slice y0 b0 z0,.slice y1 b1 z1,.slice y2 b2 z2,us,ST.vs,ST.rows,ST.ws⟩ a3 e4 rfl
 case done=>
  intro D W hD hI M;have b9:=hI;rw[i0.o,qC1]at b9;have hp:=KT.put (.deferred none) hD M rfl;have k7:=b9.1.kt hp f8;simp only[Exit.inBlock];exact⟨Ss,Or.inl ⟨D,_,rfl,run_takeDeferred M,.tuple #[],results_none rfl _ _ _,⟨_,rfl⟩,k7.tb,k7.bel,b9.2.2.trans (KpG.of (hp.bel.mono j5))⟩⟩
 case stop=>
  rintro D c W _ h _;exact h.elim
theorem qG2:∀{l:LI},(∀x∈l,0<=x)->0<=l.sum
 |[],_=>Ss
 |y::l,h=>by
  have K:=h y cY;have M:=qG2 (l:=l) λx I=>h x (mC _ I);rw[List.sum_cons];omega
section
variable {k:Int} {tl:List TbV} {bs:LL} {ps hs:LI} {ws:LP} {x:Int×Int}
def qJT(k:Int)(tl:List TbV)(bs:LL)(ps hs:LI)(ws:LP)(x:Int×Int):Bool:=jQ k tl bs ps hs ws x&&decide (0<=zK tl (upR k.toNat))
def qJU(k:Int)(tl:List TbV)(bs:LL)(ps hs:LI)(ws:LP)(x:Int×Int):List TbV:=if qJT k tl bs ps hs ws x then bs.map (rdT k tl) else []
theorem Q9(h:jQ k tl bs ps hs ws x=true):qc k tl bs ps hs ws x=true/\∀i,i<bs.length->0<=bgV tl (bs.getD i []):=by
 unfold jQ at h;rw[bV,aT]at h;exact⟨h.1,λi hi=>aN (h.2 _ (qz hi))⟩
theorem qGb:yh k tl bs ps hs ws x<0↔jQ k tl bs ps hs ws x=false:=by
 unfold yh;cases e:jQ k tl bs ps hs ws x with
 |false=>simp
 |true=>
  have M:=qG2 λy K=>by
   obtain⟨b,hb,rfl⟩:=cC.1 K;obtain⟨i,hi,rfl⟩:=gO hb;have:=((Q9 e).2) i hi;rw[gdR hi]at this;exact this
  simp only[if_true];constructor;intro I;omega;intro I;cases I
theorem qJV(I:whJ k tl bs ps hs ws x=true)(M:¬yh k tl bs ps hs ws x<0):qc k tl bs ps hs ws x=true/\(∀i,i<bs.length->0<=bgV tl (bs.getD i []))/\0<=zK tl (upR k.toNat)/\vF k tl bs ps hs ws x=bs.map (bgT tl)/\qJU k tl bs ps hs ws x=bs.map (rdT k tl):=by
 have K:jQ k tl bs ps hs ws x=true:=by
  cases e:jQ k tl bs ps hs ws x with
  |true=>rfl
  |false=>exact absurd (qGb.2 e) M
 unfold whJ at I;rw[bV]at I;refine⟨(Q9 K).1,(Q9 K).2,aN I.2,by unfold vF;rw[K];rfl,?_⟩;unfold qJU qJT;rw[K,I.2];rfl
end
theorem qDw{l}{r:LI}(h:r∈srt l):r∈l:=((zQ _ l eA).2 r).1 h
theorem OwnT.issc{g0 g1 g2 vs ws rows f}(h:OwnT w B g0 g1 g2 vs rows ws f):ISSc w (sZ g1 0 rows.length rows.length) rows:=by
 refine⟨_,_,rfl,Or.inr ⟨g1,0,rfl,λj I=>⟨.slice (some (az _ 0)) _ _,?_,(h.rw.own j I).is,_,_,_,rfl,eA⟩⟩⟩;have:=h.rw.cell j I;rw[fE I]at this;rw[cU];exact this
theorem HalfT.itsC{tl}(h:HalfT W g tl.length tl.length tl):ITsC W (sZ g 0 tl.length c) tl:=by
 refine⟨_,_,rfl,Or.inr ⟨g,0,rfl,λj I=>?_⟩⟩;have⟨g0,g1,g2,f,c0,c1,c2,ho⟩:=h.copy j I;rw[cU];exact⟨_,_,_,c0,c1,c2,ho.it,ho.issc⟩
end Go.Proofs.YtnpgdnaeghilhaaGreat
namespace Go.Proofs.YtnpgdnaeghilhaaGreat
open Go.Proofs.Tryz Go.RowKit Meet
abbrev FrB(w:World)(vb:Value)(W:World):Prop:=∀k,k<w.1.size->vb.ownBlock≠some k->W.1[k]?=w.1[k]?
theorem IS.fr{w v l}(h:IS w v l){vb W W'}(K:Bl w W)(V:∀g,vb.ownBlock=some g->w.1.size<=g)(hF:FrB W vb W'):IS W' v l:=by
 obtain⟨a,k,e,h1⟩:=h;refine⟨a,k,e,h1.imp id ?_⟩;rintro⟨b,o,e1,M⟩;refine⟨b,o,e1,λj O=>?_⟩;have I:b<w.1.size:=bL w _ (M j O);have hb:=K.size;exact(bF ((hF b Oo λe2=>O1 (V b e2)).trans (K.block b I))).trans (M j O)
theorem ZJ{w0}w{vb vt v0 v1 v2 v3}x y{rl tl}nb nw{ps hs}(hw:Bl w0 w)(h:ITs w0 vt tl)(hl:tl.length<=7)(g6:∀t∈tl,qW t=true)(h3:∃a c,v0=.slice a nb c)(h4:∃a c,v3=.slice a nw c)(e5:∀W,FrB w vb W->IS W v1 ps)(e6:∀W,FrB w vb W->IS W v2 hs)(i6:ps.length<=12)(i7:hs.length<=12)(hT:TBs w w0.1.size vb rl)(i8:rl.length<=12):
 Cl 67 #[vb,vt,.agg #[v0,v1,v2,v3,ai x,ai y]] w λe w'=>∃(q0:OA) (m0 z0:Nat) (q1:OA) (m1 z1:Nat) (q2:OA) (m2 z2:Nat),e=.returned (.agg #[.slice q0 m0 z0,.slice q1 m1 z1,.slice q2 m2 z2])/\TreE w0 w vb rl tl ps hs w' (.slice q0 m0 z0) (.slice q1 m1 z1) (.slice q2 m2 z2):=by
 obtain⟨iT,hj,e7,e8,e9⟩:=info_parts Tryz.infoTb;obtain⟨i0,hi,g7,g8,g9⟩:=info_parts Tryz.infoInt;have i5:Tryz.prog.follows .mixedOrders=true:=Kl;have KT:Hh (∀A W,Bl w A->Bl A W->Cl 87 #[vt] W λe w'=>∃(q0:OA) (m0 z0:Nat) (q1:OA) (m1 z1:Nat) (q2:OA) (m2 z2:Nat) (us:LV),e=.returned (.agg #[.slice q0 m0 z0,.slice q1 m1 z1,.slice q2 m2 z2])/\TWr w' A.1.size ⟨.slice q0 m0 z0,.slice q1 m1 z1,.slice q2 m2 z2,us,[],yt tl,zJ (yt tl).length⟩/\Bl W w'/\Bl A w'):=ay λA W hA hW=>by
  refine(UQ W (h.below (bt hw (bt hA hW))) hl g6).mono ?_;rintro e w' ⟨x0,x1,x2,us,rfl,hT,hb'⟩;obtain⟨q0,z0,e0⟩:=qG hT.o0;obtain⟨q1,z1,e1⟩:=qG hT.rq.own;obtain⟨q2,z2,e2⟩:=qG hT.o2;subst e0 e1 e2;exact⟨_,_,_,_,_,_,_,_,_,us,rfl,TW.base hT hW.size,hb',bt hW hb'⟩
 have h5:Hh (∀A W,FrB w vb A->Bl A W->Cl 88 #[v1,ai (rl.length:Int)] W λe w'=>∃(q0:OA) (z0:Nat),e=.returned (.slice q0 ps.length z0)/\w'.ownsRow A.1.size 3 1 (.slice q0 ps.length z0) ps.length ((orT rl.length ps).map ai)/\Bl A w'/\Bl W w'):=ay λA W hA hW=>by
  apply (Xy W rl.length ((e5 A hA).below hW) Oo).mono;rintro e w' ⟨v,rfl,ho,hb'⟩;obtain⟨q0,z0,e0⟩:=qG ho;subst e0;exact⟨_,_,rfl,qE ho hW.size,bt hW hb',hb'⟩
 have h6:Hh (∀A W,FrB w vb A->Bl A W->Cl 88 #[v2,ai (rl.length:Int)] W λe w'=>∃(q0:OA) (z0:Nat),e=.returned (.slice q0 hs.length z0)/\w'.ownsRow A.1.size 3 1 (.slice q0 hs.length z0) hs.length ((orT rl.length hs).map ai)/\Bl A w'/\Bl W w'):=ay λA W hA hW=>by
  apply (Xy W rl.length ((e6 A hA).below hW) Oo).mono;rintro e w' ⟨v,rfl,ho,hb'⟩;obtain⟨q0,z0,e0⟩:=qG ho;subst e0;exact⟨_,_,rfl,qE ho hW.size,bt hW hb',hb'⟩
 have h7:Hh (ZA tl=⟨[],yt tl,zJ (yt tl).length⟩):=ay rfl;generalize zJ (yt tl).length=ON at *;generalize yt tl=TR at *;obtain⟨a0,k0,rfl⟩:=h3;obtain⟨a1,k1,e1,-⟩:=e5 w λ_ _ _=>rfl;obtain⟨a2,k2,e2,-⟩:=e6 w λ_ _ _=>rfl;clear e5 e6;subst e1 e2;obtain⟨a3,k3,rfl⟩:=h4;obtain⟨ab,kb,rfl⟩:=qG hT.own;obtain⟨W1,d2⟩:=Ex ((w.alloc (.cells #[.slice a0 nb k0,.slice a1 ps.length k1,.slice a2 hs.length k2,.slice a3 nw k3,ai x,ai y] 38)).alloc (.cells #[sn,sn,sn] 93));have d1:Hh (Bl w W1):=ay (by rw[d2];exact x8 (x8 (bJ _ _) _) _);have d3:Hh (PX 38 W1 w.1.size (.slice a0 nb k0) (.slice a1 ps.length k1) (.slice a2 hs.length k2) (.slice a3 nw k3) x y):=ay (by rw[d2];exact(PX.made _ _ _ _ _ _ _ _).below (x8 (bJ _ _) _));have f7:Hh (Bx3 93 W1 (w.1.size+1) sn sn sn):=ay (by
  have h1:=Bx3.made 93 (w.alloc (.cells #[.slice a0 nb k0,.slice a1 ps.length k1,.slice a2 hs.length k2,.slice a3 nw k3,ai x,ai y] 38)) sn sn sn;rw[d2];rw[World.size_alloc]at h1;exact h1)
 have d7:Hh (TBs W1 w0.1.size (.slice ab rl.length kb) rl):=ay (hT.below d1);have d8:Hh (Bl w0 W1):=ay (bt hw d1);have h8:Hh (∀W,Bl W1 W->W.cell? (az w.1.size 1)=some (.slice a1 ps.length k1)/\W.cell? (az w.1.size 2)=some (.slice a2 hs.length k2)):=ay λW hW=>⟨(d3.o.below hW).six.2.1,(d3.o.below hW).six.2.2.1⟩;have hs1:w0.1.size<=W1.1.size:=d8.o.size;have h9:w0.1.size<=w.1.size+1:=O1 hw.size
 obtain⟨i9,j0,rfl,-⟩:=h;have f8:∀(W:World) (j:Nat) (u:Value),W.cell? (az w.1.size 1)=some (.slice a1 ps.length k1)/\W.cell? (az w.1.size 2)=some (.slice a2 hs.length k2)->(W.setCell (az (w.1.size+1) j) u).cell? (az w.1.size 1)=some (.slice a1 ps.length k1)/\(W.setCell (az (w.1.size+1) j) u).cell? (az w.1.size 2)=some (.slice a2 hs.length k2):=λW j u hW=>by
  rw[bC _ _ _ _ Ss,bC _ _ _ _ Ss];exact hW
 clear hT hw g6;generalize tl.length=nt at *;go_enter func67,ntmps67;go_upto_region 2 with fail;rw[<-d2];clear d2
 first|go_region_held_law (λW=>W.cell? (az w.1.size 1)=some (.slice a1 ps.length k1)/\W.cell? (az w.1.size 2)=some (.slice a2 hs.length k2))
  (first|refine h8.o _ ?_;(repeat(with_reducible first|exact bJ _ _|exact O|refine qT ?_|refine qC ?_ _));done|refine a5 _ ?_;(repeat(with_reducible first|exact bJ _ _|exact K|exact V|exact M|refine qT ?_|refine qC ?_ _));done|refine f8 _ _ _ ?_;(first|refine f8 _ _ _ ?_;(first|refine f8 _ _ _ ?_;refine a5 _ ?_;(repeat(with_reducible first|exact bJ _ _|exact K|exact V|exact M|refine qT ?_|refine qC ?_ _));done|refine a5 _ ?_;(repeat(with_reducible first|exact bJ _ _|exact K|exact V|exact M|refine qT ?_|refine qC ?_ _));done)|refine a5 _ ?_;(repeat(with_reducible first|exact bJ _ _|exact K|exact V|exact M|refine qT ?_|refine qC ?_ _));done))
  (first
   |(refine step_append_lies _ Fl _ _ _ Fl _ 58 _ _ 3 _ underlying33 hj e7 e8 e9 rfl Dd _ _ _ Fl (b1.alloc _) _ 1 1 _ Fl Fl (uT _ _ _ _ _) (λu hu=>by simp at hu;rcases hu with rfl|rfl|rfl <;> rfl) Dd Um Oo (by have:=O.size;simp;omega) _ rfl ?_;intro g14 f9 a6 a4 I d4 d5;have a7:=qBH d7 d8 d1 d3 f7 O d6 I a4;have a5:∀W,Bl a6 W->W.cell? (az w.1.size 1)=some (.slice a1 ps.length k1)/\W.cell? (az w.1.size 2)=some (.slice a2 hs.length k2):=λW hW=>⟨(a7.px.below hW).six.2.1,(a7.px.below hW).six.2.2.1⟩;(try have b9:=(d9.below (qC (bJ _ _) _)).gr (b1.alloc _) Dd I))
   |(refine step_append_lies _ Fl _ _ _ Fl w0.1.size 58 iT (.agg #[sn,sn,sn]) 3 72 underlying33 hj e7 e8 e9 rfl Dd (.slice ab rl.length kb) rl.length _ Fl ((b1.alloc _).alloc _) (az (b8.1.size+1) 0) 1 1 [.slice q0 m0 z0,.slice q1 m1 z1,.slice q2 m2 z2] Fl Fl (qC0 (X:=b8.alloc (.cells #[ai (rl.length:Int)] 3)) Ss (bJ _ _)) (λu hu=>by simp at hu;rcases hu with rfl|rfl|rfl <;> rfl) Dd Um Oo (by have:=O.size;simp;omega) _ rfl ?_;intro g14 f9 a6 a4 I d4 d5;have a7:=qBH d7 d8 d1 d3 f7 (qC O _) (TW.below d6 (qC (bJ _ _) _)) I a4;have a5:∀W,Bl a6 W->W.cell? (az w.1.size 1)=some (.slice a1 ps.length k1)/\W.cell? (az w.1.size 2)=some (.slice a2 hs.length k2):=λW hW=>⟨(a7.px.below hW).six.2.1,(a7.px.below hW).six.2.2.1⟩;have b9:=((Bx1.made 3 _ (ai rl.length) rfl).below (qC (bJ _ _) _)).gr ((b1.alloc _).alloc _) Dd I)
   |(refine step_append_lies _ Fl _ _ _ Fl w0.1.size 58 iT (.agg #[sn,sn,sn]) 3 72 underlying33 hj e7 e8 e9 rfl Dd (.slice ab rl.length kb) rl.length _ Fl ((b1.alloc _).alloc _) (az b8.1.size 0) 1 1 [.slice q0 m0 z0,.slice q1 m1 z1,.slice q2 m2 z2] Fl Fl (qC0 (X:=b8) rfl (qC (bJ _ _) _)) (λu hu=>by simp at hu;rcases hu with rfl|rfl|rfl <;> rfl) Dd Um Oo (by have:=O.size;simp;omega) _ rfl ?_;intro g14 f9 a6 a4 I d4 d5;have a7:=qBH d7 d8 d1 d3 f7 (qC O _) (TW.below d6 (qC (bJ _ _) _)) I a4;have a5:∀W,Bl a6 W->W.cell? (az w.1.size 1)=some (.slice a1 ps.length k1)/\W.cell? (az w.1.size 2)=some (.slice a2 hs.length k2):=λW hW=>⟨(a7.px.below hW).six.2.1,(a7.px.below hW).six.2.2.1⟩;have b9:=(Bx1.made (k:=b8.1.size+1) 3 (b8.alloc (.cells _ 58)) (ai rl.length) Ss).gr ((b1.alloc _).alloc _) Dd I)
   |(refine step_append_lies _ Fl _ _ _ Fl _ 3 _ _ 1 8 underlying24 hi g7 g8 g9 rfl Dd _ _ _ Fl c7 _ 1 1 _ Fl Fl c8.news (λu hu=>by simp at hu;subst hu;rfl) Dd Um Oo (by have:=M.size;simp;omega) _ rfl ?_;intro g21 h0 i3 a8 a9 g4 g5;have V:=grB (by(repeat(with_reducible first|exact bJ _ _|exact K|exact V|exact M|refine qT ?_|refine qC ?_ _))) c7 a9)
   |(refine step_append_lies _ Fl _ _ _ Fl _ 3 _ _ 1 8 underlying24 hi g7 g8 g9 rfl Dd _ _ _ Fl (c7.alloc _) _ 1 1 [ai rl.length] Fl Fl (qH _ _ _) (λu hu=>by simp at hu;subst hu;rfl) Dd Um Oo (by have:=M.size;simp;omega) _ rfl ?_;intro g21 h0 i3 a8 a9 g4 g5;have V:=grB (by(repeat(with_reducible first|exact bJ _ _|exact K|exact V|exact M|refine qT ?_|refine qC ?_ _))) (c7.alloc _) a9)
   |(go_simp;go_at_call 87;(with_reducible refine(KT.o _ _ d1.o (by(repeat(with_reducible first|exact bJ _ _|exact O|refine qT ?_|refine qC ?_ _)))).mono ?_);rintro e b8 ⟨q0,m0,z0,q1,m1,z1,q2,m2,z2,us,rfl,d6,e3,O⟩;have b1:=qB d7.o.own O;(first|have d9:=(Bx1.made 3 _ (ai rl.length) rfl).below (Qb e3)|have d9:=(Bx1.made 3 W1 (ai (rl.length:Int)) rfl).below e3|skip))
   |(go_simp;go_at_call 88;have _hk:=a8;(with_reducible refine(h6.o _ _ a7.fr (by(repeat(with_reducible first|exact bJ _ _|exact K|exact V|exact M|refine qT ?_|refine qC ?_ _)))).mono ?_);rintro e j1 ⟨q5,z5,rfl,h2,K,e4⟩;(first|have c9:=qB a8 e4|have c9:=qB a8 (Qb e4));have b7:=a7.bx.below K;have t0:=b7.c0;have t1:=b7.c1;have t2:=b7.c2;have f0:=b7.free 0;have f1:=b7.free 1;have f2:=b7.free 2)
   |(go_simp;go_at_call 88;(with_reducible refine(h5.o _ _ a7.fr (by(repeat(with_reducible first|exact bJ _ _|exact K|exact V|exact M|refine qT ?_|refine qC ?_ _)))).mono ?_);rintro e i4 ⟨q8,z8,rfl,c7,M,d0⟩;(first|have c8:=b9.below d0|have c8:=b9.below (Qb d0)|have c8:=(Bx1.made 3 _ (ai rl.length) rfl).below d0|have c8:=(Bx1.made 3 a6 (ai (rl.length:Int)) rfl).below (Qb d0)|skip))
   |fail)|fail
 all_goals go_wp2_with fail
 all_goals refine bodyPost_ret (v:=.agg #[sZ g14 0 (rl.length+1) f9,sZ g21 0 (ps.length+1) h0,.slice q5 hs.length z5]) (by simp[results,results67,go_sem,t0,t1,t2]) rfl ?_
 all_goals exact⟨_,_,_,_,_,_,_,_,_,rfl,qH8 a7 h7 K c9 h2 h9 ⟨Oo,nR _⟩⟩
