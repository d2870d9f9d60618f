import Derived.Deep.CutRange
import Derived.Test.YtjbpgdpciinlcaaGreatBg10
set_option maxHeartbeats 40000000
set_option maxRecDepth 1000000
namespace Go.Proofs.YtjbpgdpciinlcaaGreat
open Go.RowKit
variable {l ls:List (List Int)}{p row vs:List Int}{us xs:List Value}{B b i j n:Nat}{e:TypeId}{v:Value}{W W0 w w':World}
def qCn(v:Value):Prop:=∃a n c,v=.slice a n c/\n<=c
def ISc(w:World)(v:Value)(l:List Int):Prop:=IS w v l/\qCn v
theorem ISc.below{l:List Int}(h:ISc w v l)(hb:Bl w w'):ISc w' v l:=⟨h.1.below hb,h.2⟩
theorem qDg{s:Nat}(h:w.ownsRow B e s v n xs):qCn v:=by
 rcases h.2 with ⟨rfl,hn⟩|⟨g,cap,cur,rfl,-,-,hn,-⟩
 ·exact⟨_,_,_,rfl,nR _⟩
 ·exact⟨_,_,_,rfl,hn⟩
def ISSc(w:World)(v:Value)(ls:List (List Int)):Prop:=∃a cap,v=.slice a ls.length cap/\(ls.length=0∨∃b o,a=some ⟨b,o,none⟩/\∀j,j < ls.length->∃u,w.cell? ⟨b,o+j,none⟩=some u/\ISc w u (ls.getD j []))
theorem ISSc.iss(h:ISSc w v ls):ISS w v ls:=by
 obtain⟨a,cap,rfl,h1⟩:=h;refine⟨a,cap,rfl,?_⟩;rcases h1 with h1|⟨b,o,rfl,h1⟩
 ·exact Or.inl h1
 ·exact Or.inr ⟨b,o,rfl,fun j hj=>by obtain⟨u,h2,h3⟩:=h1 j hj;exact⟨u,h2,h3.1⟩⟩
theorem ISSc.below(h:ISSc w v ls)(hb:Bl w w'):ISSc w' v ls:=by
 obtain⟨a,cap,rfl,h1⟩:=h;refine⟨a,cap,rfl,?_⟩;rcases h1 with h1|⟨b,o,rfl,h1⟩
 ·exact Or.inl h1
 ·exact Or.inr ⟨b,o,rfl,fun j hj=>by obtain⟨u,h2,h3⟩:=h1 j hj;exact⟨u,(hb.cell (p:=⟨b,o+j,none⟩) (bL w _ h2)).trans h2,h3.below hb⟩⟩
structure RS(W0 W:World)(v:Value)(us:List Value)(ls:List (List Int)):Prop where
 sl:∃a cap,v=.slice a ls.length cap/\ls.length<=cap/\(ls.length=0∨∃b o,a=some ⟨b,o,none⟩/\∀j,j < ls.length->W.cell? ⟨b,o+j,none⟩=some (us.getD j undef))
 len:us.length=ls.length
 each:∀i,i < ls.length->ISc W0 (us.getD i undef) (ls.getD i [])
theorem RS.issc(h:RS W0 W v us ls)(hb:Bl W0 W):ISSc W v ls:=by
 obtain⟨⟨a,cap,rfl,hc,h1⟩,h2,h3⟩:=h;refine⟨a,cap,rfl,?_⟩;rcases h1 with h1|⟨b,o,rfl,h1⟩
 ·exact Or.inl h1
 ·exact Or.inr ⟨b,o,rfl,fun j hj=>⟨_,h1 j hj,(h3 j hj).below hb⟩⟩
theorem RS.iss(h:RS W0 W v us ls)(hb:Bl W0 W):ISS W v ls:=(h.issc hb).iss
theorem getD_take{α:Type}{l:List α}{d:α}(h:i < n):(l.take n).getD i d=l.getD i d:=by
 rw[gD,List.getElem?_take_of_lt h,<-gD]
theorem vQ{α:Type}{l:List α}{d:α}:(l.drop n).getD i d=l.getD (n+i) d:=by
 rw[gD,List.getElem?_drop,<-gD]
theorem drop_cons(h:j < l.length):l.drop j=l.getD j []::l.drop (j+1):=by
 rw[gD,gE h];exact List.drop_eq_getElem_cons h
theorem Ul(h:¬j < l.length):l.drop j=[]:=List.drop_eq_nil_of_le (by omega)
def qCo(W:World)(v v':Value):Prop:=v'=v∨∀g,v'.ownBlock=some g->W.heap.size<=g
def vlF:List Int->List Int->Int->Int
 |[],_,_=>0
 |x::vs,r,v=>if x=v then r.getD 0 0 else vlF vs (r.drop 1) v
def qK(vs vars row:List Int):List Int:=vars.map (vlF vs row)
theorem uP(vs vars row:List Int):(qK vs vars row).length=vars.length:=by simp[qK]
theorem qDV{v:Int}(hj:j < vs.length)(h:vs.getD j 0=v):vlF (vs.drop j) (row.drop j) v=row.getD j 0:=by
 rw[zq hj,vlF,if_pos h,vQ,Nat.add_zero]
theorem qCT{v:Int}(hj:j < vs.length)(h:¬vs.getD j 0=v):vlF (vs.drop j) (row.drop j) v=vlF (vs.drop (j+1)) (row.drop (j+1)) v:=by
 rw[zq hj,vlF,if_neg h,List.drop_drop]
theorem Yr(w:World)(v0 v1 v2 vr:Value)(vs row:List Int)(n1 n2:Nat)(h1:∃a c,v1=.slice a n1 c)(h2:∃a c,v2=.slice a n2 c)(h:IS w v0 vs)(hr:IS w vr row)(x:Int)(hl:vs.length<=1099511627776)(hlr:row.length=vs.length):
 Cl 70 #[.agg #[v0,v1,v2],vr,.int .i64 x] w fun e w'=>e=.returned (.int .i64 (vlF vs row x))/\Bl w w':=by
 obtain⟨a1,c1,rfl⟩:=h1;obtain⟨a2,c2,rfl⟩:=h2;obtain⟨a,cap,rfl,hc⟩:=h;obtain⟨ar,capr,rfl,hcr⟩:=hr;obtain⟨W1,hW1⟩:∃W1,W1=w.alloc (.cells #[.slice a vs.length cap,.slice a1 n1 c1,.slice a2 n2 c2] 53):=⟨_,rfl⟩;have HB1:Hid (Bl w W1):=hid (by rw[hW1];exact(bI _ _).alloc (nR _) _);have d0:W1.cell? ⟨w.heap.size,0,none⟩=some (.slice a vs.length cap):=by rw[hW1,cA _ _ _ _ rfl];rfl
 have HC:Hid (∀j,j < vs.length->∃b o,a=some ⟨b,o,none⟩/\W1.cell? ⟨b,o+j,none⟩=some (.int .i64 (vs.getD j 0))):=hid fun j hj=>by
  rcases hc with h0|⟨b,o,rfl,h⟩
  ·omega
  ·exact⟨b,o,rfl,(HB1.out.cell (bL w _ (h j hj))).trans (h j hj)⟩
 have HCr:Hid (∀j,j < vs.length->∃b o,ar=some ⟨b,o,none⟩/\W1.cell? ⟨b,o+j,none⟩=some (.int .i64 (row.getD j 0))):=hid fun j hj=>by
  rcases hcr with h0|⟨b,o,rfl,h⟩
  ·omega
  ·exact⟨b,o,rfl,(HB1.out.cell (bL w _ (h j (by omega)))).trans (h j (by omega))⟩
 have HH:Hid (∀j,j < vs.length->vs.getD j 0=x->vlF (vs.drop j) (row.drop j) x=row.getD j 0):=hid fun j hj e=>qDV hj e;have HM:Hid (∀j,j < vs.length->¬vs.getD j 0=x->vlF (vs.drop j) (row.drop j) x=vlF (vs.drop (j+1)) (row.drop (j+1)) x):=hid fun j hj e=>qCT hj e;have HE:Hid (vlF (vs.drop vs.length) (row.drop vs.length) x=0):=hid (by rw[List.drop_length];rfl);rw[hlr];clear hc hcr hlr;obtain⟨n,hn⟩:∃n,n=vs.length:=⟨_,rfl⟩;rw[<-hn]at HC HCr HH HM HE hl d0 hW1 ⊢;clear hn;go_enter Tryz.func70,Tryz.ntmps70
 go_upto_region 1 with fail
 rw[<-hW1];clear hW1;go_wp2_with fail
 go_loop [12] (fun t=>∃j:Nat,j<=n/\t=.int .i64 j/\Hid (vlF (vs.drop j) (row.drop j) x=vlF vs row x)) (fun t=>n - (intOf t).toNat)
 case atStart=>exact⟨0,nZ _,rfl,hid rfl⟩
 case round=>
  obtain⟨j,hj,rfl,hok⟩:=hrel;by_cases hjn:j < n
  ·have i1:(j:Int) < (n:Int):=by omega
   obtain⟨b,o,ea,e1⟩:=HC.out j hjn;subst ea;by_cases hx:vs.getD j 0=x
   ·obtain⟨b2,o2,ea,e2⟩:=HCr.out j hjn;subst ea;have hf:=hid ((HH.out j hjn hx).symm.trans hok.out);rw[hx]at e1;generalize row.getD j 0=y at *;clear hx;go_wp2;go_ret;exact⟨qO hf.out,HB1.out⟩
   ·have hf:=hid ((HM.out j hjn hx).symm.trans hok.out);generalize vs.getD j 0=y at *;go_wp2;go_round
    case rel=>exact⟨j+1,by omega,by go_num,hf⟩
    case measure=>simp[intOf];omega
  ·obtain rfl:j=n:=by omega
   have i1:¬((j:Int) < (j:Int)):=by omega
   have hf:=hid (HE.out.symm.trans hok.out);go_wp2;go_ret;exact⟨qO hf.out,HB1.out⟩
theorem jL(w:World)(v0 v1 v2 vr vv:Value)(vs row vars:List Int)(n1 n2:Nat)(h1:∃a c,v1=.slice a n1 c)(h2:∃a c,v2=.slice a n2 c)(h:IS w v0 vs)(hr:IS w vr row)(hv:IS w vv vars)(hl:vs.length<=1099511627776)(hlr:row.length=vs.length)(hlv:vars.length<=1000):
 Cl 47 #[.agg #[v0,v1,v2],vr,vv] w fun e w'=>∃v,e=.returned v/\w'.ownsRow w.heap.size 3 1 v (qK vs vars row).length ((qK vs vars row).map (Value.int .i64))/\Bl w w':=by
 obtain⟨i0,hi,hz0,hz1,hz2⟩:=info_parts Tryz.infoInt;have KV:Hid (∀W x,Bl w W->Cl 70 #[.agg #[v0,v1,v2],vr,.int .i64 x] W fun e w'=>e=.returned (.int .i64 (vlF vs row x))/\Bl W w'):=hid fun W x hW=>Yr W v0 v1 v2 vr vs row n1 n2 h1 h2 (h.below hW) (hr.below hW) x hl hlr;obtain⟨a1,c1,rfl⟩:=h1;obtain⟨a2,c2,rfl⟩:=h2;obtain⟨a,cap,rfl,-⟩:=h;obtain⟨ar,capr,rfl,-⟩:=hr;obtain⟨av,capv,rfl,hcv⟩:=hv;obtain⟨W1,hW1⟩:∃W1,W1=w.alloc (.cells #[.slice a vs.length cap,.slice a1 n1 c1,.slice a2 n2 c2] 53):=⟨_,rfl⟩;have hB1:Bl w W1:=by rw[hW1];exact(bI _ _).alloc (nR _) _
 have HBx:Hid (W1.heap[w.heap.size]?=some (.cells #[.slice a vs.length cap,.slice a1 n1 c1,.slice a2 n2 c2] 53 (0,0))):=hid (by rw[hW1];exact heap_alloc_new _ _);have hs1:W1.heap.size=w.heap.size+1:=by rw[hW1];simp
 have HS0:Hid (Bl w (W1.alloc (.cells #[] 3))/\(W1.alloc (.cells #[] 3)).ownsRow w.heap.size 3 1 (.slice (some ⟨w.heap.size+1,0,none⟩) 0 0) 0 []/\(W1.alloc (.cells #[] 3)).heap[w.heap.size]?=some (.cells #[.slice a vs.length cap,.slice a1 n1 c1,.slice a2 n2 c2] 53 (0,0))):=hid (by
  refine⟨hB1.alloc hB1.size _,?_,(Below.heap_alloc _ _ _ (by omega)).trans HBx.out⟩;have:=oM W1 (e:=3) (size:=1) (base:=w.heap.size) #[] 0 (by omega) (by decide) rfl;rw[hs1]at this;exact this)
 have HC:Hid (∀W,Bl w W->∀j,j < vars.length->∃b o,av=some ⟨b,o,none⟩/\W.cell? ⟨b,o+j,none⟩=some (.int .i64 (vars.getD j 0))):=hid fun W hW j hj=>by
  rcases hcv with h0|⟨b,o,rfl,h⟩
  ·omega
  ·exact⟨b,o,rfl,(hW.cell (bL w _ (h j hj))).trans (h j hj)⟩
 have HP:Hid (∀j,j < vars.length->(qK vs (vars.take (j+1)) row).map (Value.int .i64)=(qK vs (vars.take j) row).map (Value.int .i64)++[.int .i64 (vlF vs row (vars.getD j 0))]):=hid fun j hj=>by
  unfold qK;rw[tA,gE hj,gD,gE hj,mA,mA];rfl
 have HP0:Hid ((qK vs (vars.take 0) row).map (Value.int .i64)=[]):=hid rfl;have HPn:Hid (qK vs (vars.take vars.length) row=qK vs vars row):=hid (by rw[tL]);rw[uP];clear hcv hB1 HBx hlr hl;obtain⟨n,hn⟩:∃n,n=vars.length:=⟨_,rfl⟩;rw[<-hn]at HC HP HPn hlv ⊢;clear hn;generalize vs.length=nv at *;generalize row.length=nr at *;go_enter Tryz.func47,Tryz.ntmps47
 go_upto_region 1 with fail
 rw[<-hW1];clear hW1;go_wp2_with fail
 generalize W1.alloc (.cells #[] 3)=W2 at *;go_loopw [7,13] (fun u t wr=>∃(j:Nat) (vo:Value),j<=n/\t=.int .i64 j/\vo=u/\Hid (Bl w wr/\wr.ownsRow w.heap.size 3 1 vo j ((qK vs (vars.take j) row).map (Value.int .i64))/\wr.heap[w.heap.size]?=some (.cells #[.slice a nv cap,.slice a1 n1 c1,.slice a2 n2 c2] 53 (0,0)))) (fun _ t _=>n - (intOf t).toNat)
 case atStart=>exact⟨0,_,nZ _,rfl,rfl,hid ⟨HS0.out.1,by rw[HP0.out];exact HS0.out.2.1,HS0.out.2.2⟩⟩
 case round=>
  clear HS0 HP0;obtain⟨j,vo,hj,rfl,rfl,HT⟩:=hrel;by_cases hjn:j < n
  ·have i1:(j:Int) < (n:Int):=by omega
   obtain⟨b,o,ea,e1⟩:=HC.out wr HT.out.1 j hjn;subst ea;have d0:wr.cell? ⟨w.heap.size,0,none⟩=some (.slice a nv cap):=by rw[cell_of_row _ _ _ _ _ _ HT.out.2.2];rfl
   have d1:wr.cell? ⟨w.heap.size,1,none⟩=some (.slice a1 n1 c1):=by rw[cell_of_row _ _ _ _ _ _ HT.out.2.2];rfl
   have d2:wr.cell? ⟨w.heap.size,2,none⟩=some (.slice a2 n2 c2):=by rw[cell_of_row _ _ _ _ _ _ HT.out.2.2];rfl
   have KV1:=hid (KV.out wr (vars.getD j 0) HT.out.1);have HPj:=hid (HP.out j hjn);generalize vlF vs row (vars.getD j 0)=y at *;generalize vars.getD j 0=x at *;go_wp2_with fail
   refine KV1.out.mono ?_;rintro e w3 ⟨rfl,hb3⟩;have HN:Hid (Bl w w3/\w3.ownsRow w.heap.size 3 1 vo j ((qK vs (vars.take j) row).map (Value.int .i64))/\w3.heap[w.heap.size]?=some (.cells #[.slice a nv cap,.slice a1 n1 c1,.slice a2 n2 c2] 53 (0,0))):=hid ⟨bt HT.out.1 hb3,qB HT.out.2.1 hb3,(hb3.block _ (bL wr _ d0)).trans HT.out.2.2⟩;clear HT hb3 KV1 d0 d1 d2 e1;have hs3:=HN.out.1.size;go_wp2_with (first|(at_builtin;refine wpList_append_lies _ rfl _ _ 24 rfl w.heap.size 3 i0 (.int .i64 0) 1 8 Tryz.underlying24 hi hz0 hz1 hz2 rfl (by decide) vo _ _ rfl (HN.out.2.1.alloc _) ⟨_,0,none⟩ 1 1 [.int .i64 y] rfl rfl (qH _ _ _) (fun u hu=>by simp at hu;subst hu;rfl) (by decide) (by unfold maxLen;omega) (by omega) (by simp;omega) _ rfl ?_;intro g3 cp3 w4 hown4 hgrow4 hat4 hlt4)|fail)
   go_roundw
   case rel=>
    refine⟨j+1,_,by omega,by go_num,rfl,hid ⟨(HN.out.1.alloc hs3 _).grown hgrow4 (by simp;omega) (fun q hq=>(HN.out.2.1.lt q hq).1),by rw[HPj.out];exact hown4,?_⟩⟩;refine((hgrow4.block _ (by simp;have:=bL w3 ⟨w.heap.size,0,none⟩ (by rw[cell_of_row _ _ _ _ _ _ HN.out.2.2];rfl);simp at this;omega) (own_ne HN.out.2.1 ⟨_,HN.out.2.2⟩ (by decide))).trans (Below.heap_alloc _ _ _ ?_)).trans HN.out.2.2;exact bL w3 ⟨w.heap.size,0,none⟩ (by rw[cell_of_row _ _ _ _ _ _ HN.out.2.2];rfl)
   case measure=>simp[intOf];omega
  ·obtain rfl:j=n:=by omega
   have i1:¬((j:Int) < (j:Int)):=by omega
   go_wp2_with fail
   go_ret;have h2:=HT.out.2.1;rw[HPn.out]at h2;exact⟨_,rfl,h2,HT.out.1⟩
theorem zi{w3:World}{o:Obj}(hg:(W.alloc o).grownBy w3 v.ownBlock)(hb:b < W.heap.size)(hne:some b≠v.ownBlock):w3.heap[b]?=W.heap[b]?:=
 (hg.block b (by simp;omega) hne).trans (Below.heap_alloc _ _ _ hb)
structure RQ(W:World)(B:Nat)(v:Value)(us:List Value)(ls:List (List Int)):Prop where
 own:W.ownsRow B 24 1 v ls.length us
 len:us.length=ls.length
 each:∀i,i < ls.length->W.ownsRow B 3 1 (us.getD i undef) (ls.getD i []).length ((ls.getD i []).map (Value.int .i64))
 ap:∀i j,i < j->j < ls.length->∀g,(us.getD i undef).ownBlock=some g->(us.getD j undef).ownBlock≠some g
section
variable {W W' w3:World} {B B':Nat} {v v' u:Value} {us:List Value} {ls:List (List Int)} {l:List Int} {o:Obj}
theorem RQ.below(h:RQ W B v us ls)(hb:Bl W W'):RQ W' B v us ls:=⟨qB h.own hb,h.len,fun i hi=>qB (h.each i hi) hb,h.ap⟩
theorem RQ.base(h:RQ W B v us ls)(hB:B'<=B):RQ W B' v us ls:=⟨qF h.own hB,h.len,fun i hi=>qF (h.each i hi) hB,h.ap⟩
theorem RQ.step(h:RQ W B v us ls)(hu:W.ownsRow B 3 1 u l.length (l.map (Value.int .i64)))(hn:∀i,i < ls.length->∀g,(us.getD i undef).ownBlock=some g->u.ownBlock≠some g)
 (hown:w3.ownsRow B 24 1 v' (ls.length+1) (us++[u])) (hg:(W.alloc o).grownBy w3 v.ownBlock):RQ w3 B v' (us++[u]) (ls++[l]):=by
 have hint:∀{x:Value} {k:Nat} {xs:List Value},W.ownsRow B 3 1 x k xs->w3.ownsRow B 3 1 x k xs:=fun hx=>
  qC hx fun g hgx=>zi hg (hx.lt g hgx).2 (own_ne h.own (qY hx hgx) (by decide))
 have hl:=h.len;have e1:∀i,i < ls.length->(us++[u]).getD i undef=us.getD i undef:=fun i hi=>by rw[gD,aL (by omega),<-gD]
 have e2:(us++[u]).getD ls.length undef=u:=by rw[gD,bN (by omega),show ls.length - us.length=0 by omega];rfl
 have f1:∀i,i < ls.length->(ls++[l]).getD i []=ls.getD i []:=fun i hi=>by rw[gD,aL hi,<-gD]
 have f2:(ls++[l]).getD ls.length []=l:=by rw[gD,bN (nR _),Nat.sub_self];rfl
 refine⟨by rw[lA];exact hown,by simp[hl],fun i hi=>?_,fun i j hij hj g=>?_⟩
 ·rw[lA,lS]at hi;by_cases e:i < ls.length
  ·rw[e1 i e,f1 i e];exact hint (h.each i e)
  ·obtain rfl:i=ls.length:=by omega
   rw[e2,f2];exact hint hu
 ·rw[lA,lS]at hj;rw[e1 i (by omega)];by_cases e:j < ls.length
  ·rw[e1 j e];exact h.ap i j hij e g
  ·obtain rfl:j=ls.length:=by omega
   rw[e2];exact hn i (by omega) g
theorem RQ.get(h:RQ W B v us ls)(hi:i < ls.length):∃g cap,v=.slice (some ⟨g,0,none⟩) ls.length cap/\ls.length<=cap/\W.cell? ⟨g,i,none⟩=some (us.getD i undef):=by
 rcases h.own.2 with ⟨-,h2⟩|⟨g,cap,cur,rfl,hb',hc,hn,-,-,ht⟩
 ·omega
 ·refine⟨g,cap,rfl,hn,?_⟩;have hlen:=h.len;rw[cell_of_row _ _ _ _ _ _ hc,gD,gE (by omega),Option.getD_some,<-gE (by omega:i < us.length),<-ht,List.getElem?_take_of_lt (by omega),Array.getElem?_toList]
theorem RQ.rs(h:RQ W B v us ls):RS W W v us ls:=by
 refine⟨?_,h.len,fun i hi=>⟨qW (h.each i hi),qDg (h.each i hi)⟩⟩;rcases h.own.2 with ⟨rfl,hn⟩|⟨g,cap,cur,rfl,hb',hc,hn,-⟩
 ·exact⟨none,0,by rw[hn],by omega,Or.inl hn⟩
 ·refine⟨_,cap,rfl,hn,Or.inr ⟨g,0,rfl,fun j hj=>?_⟩⟩;obtain⟨g',cap',e,-,hc'⟩:=h.get hj;simp only[Value.slice.injEq,Option.some.injEq,Addr.mk.injEq]at e;obtain⟨⟨rfl,-⟩,-⟩:=e;rw[Nat.zero_add];exact hc'
end
def atP(row places:List Int):List Int:=places.map fun p=>row.getD p.toNat 0
theorem J1(row places:List Int):(atP row places).length=places.length:=by simp[atP]
theorem jK(w:World)(vr vp:Value)(row places:List Int)(hr:IS w vr row)(hp:IS w vp places)(hlp:places.length<=1000)(hin:∀p∈places,0<=p/\p < row.length):
 Cl 60 #[vr,vp] w fun e w'=>∃v,e=.returned v/\w'.ownsRow w.heap.size 3 1 v (atP row places).length ((atP row places).map (Value.int .i64))/\Bl w w':=by
 obtain⟨i0,hi,hz0,hz1,hz2⟩:=info_parts Tryz.infoInt;obtain⟨ar,capr,rfl,hcr⟩:=hr;obtain⟨ap,capp,rfl,hcp⟩:=hp
 have HC:Hid (∀W,Bl w W->∀j,j < places.length->∃(b o q br oo:Nat),ap=some ⟨b,o,none⟩/\ar=some ⟨br,oo,none⟩/\q < row.length/\W.cell? ⟨b,o+j,none⟩=some (.int .i64 (q:Int))/\W.cell? ⟨br,oo+q,none⟩=some (.int .i64 (row.getD q 0))/\places.getD j 0=(q:Int)):=hid fun W hW j hj=>by
  have hm:places.getD j 0∈places:=by rw[gD,gE hj];exact gM _
  obtain⟨h0,h1⟩:=hin _ hm;have e:places.getD j 0=((places.getD j 0).toNat:Int):=by omega
  rcases hcp with h2|⟨b,o,rfl,h2⟩
  ·omega
  ·rcases hcr with h3|⟨br,oo,rfl,h3⟩
   ·omega
   ·refine⟨b,o,(places.getD j 0).toNat,br,oo,rfl,rfl,by omega,?_,?_,e⟩
    ·rw[<-e];exact(hW.cell (bL w _ (h2 j hj))).trans (h2 j hj)
    ·exact(hW.cell (bL w _ (h3 _ (by omega)))).trans (h3 _ (by omega))
 have HP:Hid (∀j q,j < places.length->places.getD j 0=((q:Nat):Int)->(atP row (places.take (j+1))).map (Value.int .i64)=(atP row (places.take j)).map (Value.int .i64)++[.int .i64 (row.getD q 0)]):=hid fun j q hj e=>by
  unfold atP;rw[tA,gE hj,mA,mA];rw[gD,gE hj]at e;simp only[Option.getD_some]at e;simp[e]
 have HP0:Hid ((atP row (places.take 0)).map (Value.int .i64)=[]):=hid rfl;have HPn:Hid (atP row (places.take places.length)=atP row places):=hid (by rw[tL]);rw[J1];clear hcr hcp hin;obtain⟨n,hn⟩:∃n,n=places.length:=⟨_,rfl⟩;obtain⟨nr,hnr⟩:∃nr,nr=row.length:=⟨_,rfl⟩;rw[<-hn]at HC HP HPn hlp ⊢;rw[<-hnr]at HC ⊢;clear hn hnr;go_enter Tryz.func60,Tryz.ntmps60
 go_wp2_with (at_make;refine wpList_make_own _ rfl _ _ 24 rfl w.heap.size 3 i0 (.int .i64 0) 1 Tryz.underlying24 hi hz0 hz1 _ _ _ n rfl rfl rfl ?b2 ?b3 (nR _) ?_)
 case b2=>rw[hz2];omega
 case b3=>unfold maxLen;omega
 intro w0 hown0 hgrow0;have HS0:Hid (w0.ownsRow w.heap.size 3 1 (.slice (some ⟨w.heap.size,0,none⟩) 0 n) 0 []/\Bl w w0):=hid ⟨hown0,(bI _ _).grown hgrow0 (nR _) (fun j hj=>by cases hj)⟩;clear hgrow0 hown0;go_wp2_with fail
 go_loopw [5,13] (fun u t wr=>∃(j:Nat) (vo:Value),j<=n/\t=.int .i64 j/\vo=u/\Hid (wr.ownsRow w.heap.size 3 1 vo j ((atP row (places.take j)).map (Value.int .i64))/\Bl w wr)) (fun _ t _=>n - (intOf t).toNat)
 case atStart=>exact⟨0,_,nZ _,rfl,rfl,hid ⟨by rw[HP0.out];exact HS0.out.1,HS0.out.2⟩⟩
 case round=>
  clear HS0 HP0;obtain⟨j,vo,hj,rfl,rfl,HT⟩:=hrel;by_cases hjn:j < n
  ·have i1:(j:Int) < (n:Int):=by omega
   obtain⟨b,o,q,br,oo,ea,eb,hq,e1,e2,e3⟩:=HC.out wr HT.out.2 j hjn;subst ea eb;have i2:(q:Int) < (nr:Int):=by omega
   have HPj:=hid (HP.out j q hjn e3);have hs3:=HT.out.2.size;clear e3;generalize row.getD q 0=y at *;go_wp2_with (first|(at_builtin;refine wpList_append_lies _ rfl _ _ 24 rfl w.heap.size 3 i0 (.int .i64 0) 1 8 Tryz.underlying24 hi hz0 hz1 hz2 rfl (by decide) vo _ _ rfl (HT.out.1.alloc _) ⟨_,0,none⟩ 1 1 [.int .i64 y] rfl rfl (qH _ _ _) (fun u hu=>by simp at hu;subst hu;rfl) (by decide) (by unfold maxLen;omega) (by omega) (by simp;omega) _ rfl ?_;intro g3 cp3 w4 hown4 hgrow4 hat4 hlt4)|fail)
   go_roundw
   case rel=>exact⟨j+1,_,by omega,by go_num,rfl,hid ⟨by rw[HPj.out];exact hown4,(HT.out.2.alloc hs3 _).grown hgrow4 (by simp;omega) (fun q hq=>(HT.out.1.lt q hq).1)⟩⟩
   case measure=>simp[intOf];omega
  ·obtain rfl:j=n:=by omega
   have i1:¬((j:Int) < (j:Int)):=by omega
   go_wp2_with fail
   go_ret;have h2:=HT.out.1;rw[HPn.out]at h2;exact⟨_,rfl,h2,HT.out.2⟩
structure TR(W:World)(B:Nat)(D:List Int->Prop)(N0 N1:List Int->List Int)(f:List Int->Nat)(g0 g1:List Int->Value):Prop where
 blk:∀p,D p->W.heap[f p]?=some (.cells #[g0 p,g1 p] 200 (0,0))
 low:∀p,D p->B<=f p
 o0:∀p,D p->W.ownsRow B 3 1 (g0 p) (N0 p).length ((N0 p).map (Value.int .i64))
 o1:∀p,D p->W.ownsRow B 137 1 (g1 p) (N1 p).length ((N1 p).map fun x=>.pointer (some ⟨f (p++[x]),0,none⟩))
 inj:∀p q,D p->D q->f p=f q->p=q
 a0:∀p q,D p->D q->p≠q->∀g,(g0 p).ownBlock=some g->(g0 q).ownBlock≠some g
 a1:∀p q,D p->D q->p≠q->∀g,(g1 p).ownBlock=some g->(g1 q).ownBlock≠some g
section
variable {W W' w1:World} {B:Nat} {D:List Int->Prop} {N0 N1:List Int->List Int} {f:List Int->Nat} {g0 g1:List Int->Value} {p0:List Int} {x:Int} {v':Value} {o:Obj}
theorem TR.lt(h:TR W B D N0 N1 f g0 g1)(hp:D p):f p < W.heap.size:=by
 rcases Nat.lt_or_ge (f p) W.heap.size with h1|h1
 ·exact h1
 ·have:=h.blk p hp;rw[Array.getElem?_eq_none h1]at this;cases this
theorem TR.typ(h:TR W B D N0 N1 f g0 g1)(hp:D p):∃cur,W.heap[f p]?=some (.cells cur 200 (0,0)):=⟨_,h.blk p hp⟩
theorem TR.below(h:TR W B D N0 N1 f g0 g1)(hb:Bl W W'):TR W' B D N0 N1 f g0 g1:=
 ⟨fun p hp=>(hb.block _ (h.lt hp)).trans (h.blk p hp),h.low,fun p hp=>qB (h.o0 p hp) hb,fun p hp=>qB (h.o1 p hp) hb,h.inj,h.a0,h.a1⟩
theorem TR.c0(h:TR W B D N0 N1 f g0 g1)(hp:D p):W.cell? ⟨f p,0,none⟩=some (g0 p):=by rw[cell_of_row _ _ _ _ _ _ (h.blk p hp)];rfl
theorem TR.c1(h:TR W B D N0 N1 f g0 g1)(hp:D p):W.cell? ⟨f p,1,none⟩=some (g1 p):=by rw[cell_of_row _ _ _ _ _ _ (h.blk p hp)];rfl
theorem TR.kept0(h:TR W B D N0 N1 f g0 g1)(hp0:D p0)(hg:(W.alloc o).grownBy w1 (g0 p0).ownBlock)(hp:D p):w1.heap[f p]?=some (.cells #[g0 p,g1 p] 200 (0,0)):=
 (zi hg (h.lt hp) (own_ne (h.o0 p0 hp0) (h.typ hp) (by decide))).trans (h.blk p hp)
theorem Yw{o':Obj}(hg:((W.alloc o').alloc o).grownBy w1 (g1 p0).ownBlock)(hb:b < W.heap.size)(hne:some b≠(g1 p0).ownBlock):w1.heap[b]?=W.heap[b]?:=
 (zi hg (by simp;omega) hne).trans (Below.heap_alloc _ _ _ hb)
def xZ(g:List Int->Value)(p:List Int)(v:Value):List Int->Value:=fun q=>if q=p then v else g q
theorem TR.vals(h:TR W B D N0 N1 f g0 g1)(hp0:D p0)(hown:w1.ownsRow B 3 1 v' ((N0 p0).length+1) ((N0 p0).map (Value.int .i64)++[.int .i64 x]))(hg:(W.alloc o).grownBy w1 (g0 p0).ownBlock)(hat:∀g,v'.ownBlock=some g->(g0 p0).ownBlock=some g∨W.heap.size<=g):
 TR (w1.setCell ⟨f p0,0,none⟩ v') B D (fun q=>if q=p0 then N0 p0++[x] else N0 q) N1 f (xZ g0 p0 v') g1:=by
 have far:∀b,b≠f p0->(w1.setCell ⟨f p0,0,none⟩ v').heap[b]?=w1.heap[b]?:=fun b hb=>bD _ _ _ _ (by exact hb);have hk:=fun p hp=>h.kept0 (p:=p) hp0 hg hp;refine⟨fun p hp=>?_,h.low,fun p hp=>?_,fun p hp=>?_,h.inj,fun p q hp hq hne g=>?_,h.a1⟩
 ·by_cases e:p=p0
  ·subst e;rw[bG _ _ _ _ _ _ (hk p hp)];simp[xZ]
  ·rw[far _ (fun e2=>e (h.inj p p0 hp hp0 e2)),hk p hp];simp[xZ,e]
 ·by_cases e:p=p0
  ·subst e;simp only[xZ,if_true,List.length_append,List.length_singleton,List.map_append,List.map_cons,List.map_nil];exact qC hown fun g hg'=>far g (fun e2=>own_ne hown ⟨_,hk p hp⟩ (by decide) (by rw[<-e2];exact hg'.symm))
  ·simp only[xZ,if_neg e];exact qC (h.o0 p hp) fun g hg'=>(far g (fun e2=>own_ne (h.o0 p hp) (h.typ hp0) (by decide) (by rw[<-e2];exact hg'.symm))).trans (zi hg ((h.o0 p hp).lt g hg').2 (fun e2=>h.a0 p p0 hp hp0 e g hg' e2.symm))
 ·exact qC (h.o1 p hp) fun g hg'=>(far g (fun e2=>own_ne (h.o1 p hp) (h.typ hp0) (by decide) (by rw[<-e2];exact hg'.symm))).trans (zi hg ((h.o1 p hp).lt g hg').2 (own_ne (h.o0 p0 hp0) (qY (h.o1 p hp) hg') (by decide)))
 ·unfold xZ;by_cases e:p=p0
  ·subst e;rw[if_pos rfl,if_neg (fun e2=>hne e2.symm)];intro h1 h2;rcases hat g h1 with h3|h3
   ·exact h.a0 p q hp hq hne g h3 h2
   ·have:=((h.o0 q hq).lt g h2).2;omega
  ·rw[if_neg e];by_cases e2:q=p0
   ·subst e2;rw[if_pos rfl];intro h1 h2;rcases hat g h2 with h3|h3
    ·exact h.a0 p q hp hq hne g h1 h3
    ·have:=((h.o0 p hp).lt g h1).2;omega
   ·rw[if_neg e2];exact h.a0 p q hp hq hne g
theorem TR.belw(h:TR W B D N0 N1 f g0 g1)(hp0:D p0)(hno:¬D (p0++[x]))(hx:x∉N1 p0)(hB:B<=W.heap.size){N0':List Int->List Int}(hN:∀q,D q->N0' q=N0 q)(hN2:N0' (p0++[x])=[])
 (hown:w1.ownsRow B 137 1 v' ((N1 p0).length+1) (((N1 p0).map fun x=>.pointer (some ⟨f (p0++[x]),0,none⟩))++[.pointer (some ⟨W.heap.size,0,none⟩)]))
 (hg:((W.alloc (.cells #[.slice none 0 0,.slice none 0 0] 200)).alloc o).grownBy w1 (g1 p0).ownBlock) (hat:∀g,v'.ownBlock=some g->(g1 p0).ownBlock=some g∨W.heap.size<=g):
 TR (w1.setCell ⟨f p0,1,none⟩ v') B (qCf D (p0++[x])) N0' (uT N1 p0 x) (fun q=>if q=p0++[x] then W.heap.size else f q) (xZ g0 (p0++[x]) (.slice none 0 0)) (xZ (xZ g1 p0 v') (p0++[x]) (.slice none 0 0)):=by
 have far:∀b,b≠f p0->(w1.setCell ⟨f p0,1,none⟩ v').heap[b]?=w1.heap[b]?:=fun b hb=>bD _ _ _ _ (by exact hb);have hlt0:=h.lt hp0;have hkf:∀p,D p->w1.heap[f p]?=some (.cells #[g0 p,g1 p] 200 (0,0)):=fun p hp=>(Yw hg (h.lt hp) (own_ne (h.o1 p0 hp0) (h.typ hp) (by decide))).trans (h.blk p hp)
 have hnew:w1.heap[W.heap.size]?=some (.cells #[.slice none 0 0,.slice none 0 0] 200 (0,0)):=by
  rw[zi hg (by simp) (fun e=>by have:=((h.o1 p0 hp0).lt _ e.symm).2;omega)];exact heap_alloc_new _ _
 have hne0:p0≠p0++[x]:=fun e=>QQ p0 x e.symm;have hnd:∀p,D p->p≠p0++[x]:=fun p hp e=>hno (e ▸ hp);refine⟨fun p hp=>?_,fun p hp=>?_,fun p hp=>?_,fun p hp=>?_,fun p q hp hq e=>?_,fun p q hp hq hne g=>?_,fun p q hp hq hne g=>?_⟩
 ·rcases hp with hp|rfl
  ·simp only[xZ,if_neg (hnd p hp)];by_cases e:p=p0
   ·subst e;rw[bG _ _ _ _ _ _ (hkf p hp)];simp
   ·rw[far _ (fun e2=>e (h.inj p p0 hp hp0 e2)),hkf p hp,if_neg e]
  ·simp only[xZ,if_true];rw[far _ (by omega),hnew]
 ·rcases hp with hp|rfl
  ·simp only[if_neg (hnd p hp)];exact h.low p hp
  ·simp only[if_true];exact hB
 ·rcases hp with hp|rfl
  ·simp only[xZ,if_neg (hnd p hp),hN p hp];exact qC (h.o0 p hp) fun g hg'=>(far g (fun e2=>own_ne (h.o0 p hp) (h.typ hp0) (by decide) (by rw[<-e2];exact hg'.symm))).trans (Yw hg ((h.o0 p hp).lt g hg').2 (own_ne (h.o1 p0 hp0) (qY (h.o0 p hp) hg') (by decide)))
  ·simp only[xZ,if_true,hN2];exact oN _ _ _ _
 ·rcases hp with hp|rfl
  ·by_cases e:p=p0
   ·subst e
    have em:((N1 p++[x]).map fun y=>Value.pointer (some ⟨if p++[y]=p++[x] then W.heap.size else f (p++[y]),0,none⟩))=((N1 p).map fun x=>.pointer (some ⟨f (p++[x]),0,none⟩))++[.pointer (some ⟨W.heap.size,0,none⟩)]:=by
     rw[mA];congr 1
     ·refine List.map_congr_left fun y hy=>?_;rw[if_neg (fun e=>hx (by rw[<-(jt e).2];exact hy))]
     ·simp
    simp only[xZ,if_neg hne0,if_true,uT,em,List.length_append,List.length_singleton];exact qC hown fun g hg'=>far g (fun e2=>own_ne hown ⟨_,hkf p hp⟩ (by decide) (by rw[<-e2];exact hg'.symm))
   ·have em:((N1 p).map fun y=>Value.pointer (some ⟨if p++[y]=p0++[x] then W.heap.size else f (p++[y]),0,none⟩))=((N1 p).map fun x=>.pointer (some ⟨f (p++[x]),0,none⟩)):=
     List.map_congr_left fun y hy=>by rw[if_neg (fun e2=>e (jt e2).1)]
    simp only[xZ,if_neg e,if_neg (hnd p hp),uT,em];exact qC (h.o1 p hp) fun g hg'=>(far g (fun e2=>own_ne (h.o1 p hp) (h.typ hp0) (by decide) (by rw[<-e2];exact hg'.symm))).trans (Yw hg ((h.o1 p hp).lt g hg').2 (fun e2=>h.a1 p p0 hp hp0 e g hg' e2.symm))
  ·simp only[xZ,if_true,uT,if_neg (QQ p0 x)];exact oN _ _ _ _
 ·have key:∀q,D q->f q≠W.heap.size:=fun q hq e=>by have:=h.lt hq;omega
  rcases hp with hp|rfl
  ·rcases hq with hq|rfl
   ·simp only[if_neg (hnd p hp),if_neg (hnd q hq)]at e;exact h.inj p q hp hq e
   ·simp only[if_neg (hnd p hp),if_true]at e;exact absurd e (key p hp)
  ·rcases hq with hq|rfl
   ·simp only[if_neg (hnd q hq),if_true]at e;exact absurd e.symm (key q hq)
   ·rfl
 ·unfold xZ;rcases hp with hp|rfl
  ·rw[if_neg (hnd p hp)];rcases hq with hq|rfl
   ·rw[if_neg (hnd q hq)];exact h.a0 p q hp hq hne g
   ·rw[if_pos rfl];intro _ h2;simp[Value.ownBlock]at h2
  ·rw[if_pos rfl];intro h1;simp[Value.ownBlock]at h1
 ·unfold xZ;rcases hp with hp|rfl
  ·rw[if_neg (hnd p hp)];rcases hq with hq|rfl
   ·rw[if_neg (hnd q hq)];by_cases e:p=p0
    ·subst e;rw[if_pos rfl,if_neg (fun e2=>hne e2.symm)];intro h1 h2;rcases hat g h1 with h3|h3
     ·exact h.a1 p q hp hq hne g h3 h2
     ·have:=((h.o1 q hq).lt g h2).2;omega
    ·rw[if_neg e];by_cases e2:q=p0
     ·subst e2;rw[if_pos rfl];intro h1 h2;rcases hat g h2 with h3|h3
      ·exact h.a1 p q hp hq hne g h1 h3
      ·have:=((h.o1 p hp).lt g h1).2;omega
     ·rw[if_neg e2];exact h.a1 p q hp hq hne g
   ·rw[if_pos rfl];intro _ h2;simp[Value.ownBlock]at h2
  ·rw[if_pos rfl];intro h1;simp[Value.ownBlock]at h1
theorem TR.same(h:TR W B D N0 N1 f g0 g1){N0' N1':List Int->List Int}(e0:∀p,D p->N0' p=N0 p)(e1:∀p,D p->N1' p=N1 p):TR W B D N0' N1' f g0 g1:=
 ⟨h.blk,h.low,fun p hp=>by rw[e0 p hp];exact h.o0 p hp,fun p hp=>by rw[e1 p hp];exact h.o1 p hp,h.inj,h.a0,h.a1⟩
theorem xw(h:W.ownsRow B e 1 v n xs)(hj:j < n):∃g cap,v=.slice (some ⟨g,0,none⟩) n cap/\W.cell? ⟨g,j,none⟩=xs[j]?:=by
 have hl:=h.1;rcases h.2 with ⟨-,h2⟩|⟨g,cap,cur,rfl,hb',hc,hn,-,-,ht⟩
 ·omega
 ·refine⟨g,cap,rfl,?_⟩;rw[cell_of_row _ _ _ _ _ _ hc,<-ht,List.getElem?_take_of_lt (by omega),Array.getElem?_toList]
end
end Go.Proofs.YtjbpgdpciinlcaaGreat
