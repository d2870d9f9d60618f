import Derived.Test.YtjbpgdpciinlcaaGreatBg15
set_option maxHeartbeats 40000000
set_option maxRecDepth 1000000
namespace Go.Proofs.YtjbpgdpciinlcaaGreat
open Go.RowKit
variable {rows:List (List Int)}{l vs ws:List Int}{B n p:Nat}{v0 v1 v2:Value}{W:World}
theorem Xi{w:World}{ad:Addr}{c m:Nat}(h:IS w (.slice (some ad) n c) l)(hm:m<=l.length):IS w (.slice (some ad) m c) (l.take m):=by
 obtain⟨a,c',e,h1⟩:=h;simp only[Value.slice.injEq]at e;obtain⟨rfl,-,rfl⟩:=e;have hl:(l.take m).length=m:=by rw[bQ];omega
 refine⟨_,c,by rw[hl],?_⟩;rcases h1 with h1|⟨b,o,e,h1⟩
 ·exact Or.inl (by omega)
 ·exact Or.inr ⟨b,o,e,fun j hj=>by rw[getD_take (by omega)];exact h1 j (by omega)⟩
theorem ks(w:World)(vr vq:Value)(rows:List (List Int))(q:List Int)(h:ISSc w vr rows)(hq:IS w vq q)(hS:SL rows)(hn:rows.length<=1099511627776)(hl:∀r∈rows,q.length<=r.length/\r.length<=1099511627776):
 Cl 73 #[vr,vq] w fun e w'=>∃k:Nat,e=.returned (.int .i64 k)/\Sk rows q k/\∃d,w'=w.drewN d:=by
 obtain⟨ar,cr,rfl,hc⟩:=h
 have HC:Hid (∀j,j < rows.length->∃(b o:Nat) (au:Option Addr) (lr cu:Nat),ar=some ⟨b,o,none⟩/\w.cell? ⟨b,o+j,none⟩=some (.slice au lr cu)/\q.length<=lr/\lr<=cu/\(au=none->lr=0)/\∀d ad,au=some ad->Cl 71 #[.slice (some ad) q.length cu,vq] (w.drewN d) fun e w'=>e=.returned (.int .i64 (qD ((rows.getD j []).take q.length) q))/\∃q',w'=(w.drewN d).drewN q'):=hid fun j hj=>by
  rcases hc with h0|⟨b,o,rfl,h⟩
  ·omega
  ·obtain⟨u,h1,hI,a',n',c',e,hcap⟩:=h j hj;have hm:=hl _ (by rw[gD,gE hj];exact gM _:rows.getD j []∈rows);have hI':=hI;obtain⟨au,cu,eu,h2⟩:=hI;subst eu;simp only[Value.slice.injEq]at e;obtain⟨-,rfl,rfl⟩:=e;refine⟨b,o,au,_,cu,rfl,h1,hm.1,hcap,fun e=>?_,fun d ad e=>?_⟩
   ·rcases h2 with h2|⟨b2,o2,e2,-⟩
    ·exact h2
    ·rw[e]at e2;cases e2
   ·subst e;have h3:=Xi hI' hm.1;exact qy (w.drewN d) _ vq _ q (h3.below (below_drewN (bI _ _) d)) (hq.below (below_drewN (bI _ _) d)) (by rw[bQ];omega) (by omega)
 have HD:Hid (∀i j,i<=j->j < rows.length->qD ((rows.getD j []).take q.length) q < 0->qD ((rows.getD i []).take q.length) q < 0):=hid fun i j hij hj hc=>J4 hS hij hj hc;have HF:Hid (∀k,k<=rows.length->(∀t,t < k->qD ((rows.getD t []).take q.length) q < 0)->(∀t,k<=t->t < rows.length->¬qD ((rows.getD t []).take q.length) q < 0)->Sk rows q k):=hid fun k h1 h2 h3=>⟨h1,h2,h3⟩
 have KN:Hid (q.length=0->∀d cu j,Cl 71 #[.slice none 0 cu,vq] (w.drewN d) fun e w'=>e=.returned (.int .i64 (qD ((rows.getD j []).take q.length) q))/\∃q',w'=(w.drewN d).drewN q'):=hid fun h0 d cu j=>by
  rw[h0,List.take_zero];exact qy (w.drewN d) _ vq [] q ⟨none,cu,rfl,Or.inl rfl⟩ (hq.below (below_drewN (bI _ _) d)) (by simp) (by omega)
 clear hc hS hl;obtain⟨aq,cq,rfl,-⟩:=hq;generalize rows.length=n at *;generalize hm:q.length=m at *;have HMq:=hid hm;clear hm;obtain⟨C,hC⟩:∃C:Nat->Int,C=fun j=>qD ((rows.getD j []).take m) q:=⟨_,rfl⟩;have HCC:Hid (∀j,qD ((rows.getD j []).take m) q=C j):=hid fun j=>by rw[hC]
 simp only[HCC.out]at HC HD HF KN;clear hC HCC;go_enter Tryz.func73,Tryz.ntmps73
 go_wp2;go_loopg [5,6] n (fun g s5 s6 wr=>∃lo hi d:Nat,s5=.int .i64 lo/\s6=.int .i64 hi/\lo<=hi/\hi<=n/\hi - lo<=g/\wr=w.drewN d/\Hid ((∀t,t < lo->C t < 0)/\(∀t,hi<=t->t < n->¬C t < 0)))
 case atStart=>exact⟨0,n,0,rfl,rfl,nZ _,nR _,by omega,rfl,hid ⟨fun t ht=>absurd ht (Nat.not_lt_zero _),fun t h1 h2=>by omega⟩⟩
 case round=>
  obtain⟨lo,hi,d,rfl,rfl,hlh,hin,hg,rfl,I⟩:=hrel;by_cases hlt:lo < hi
  ·obtain⟨b,o,au,lr,cu,ea,c1,hmr,hrc,hno,hcall⟩:=HC.out ((lo+hi) / 2) (by omega);subst ea;have hmc:m<=cu:=by omega
   have KC:Hid (∀d,Cl 71 #[.slice au m cu,.slice aq m cq] (w.drewN d) fun e w'=>e=.returned (.int .i64 (C ((lo+hi) / 2)))/\∃q',w'=(w.drewN d).drewN q'):=hid fun d=>by
    cases au with
    |none=>
     have h0:m=0:=by have:=hno rfl;omega
     have:=KN.out h0 d cu ((lo+hi) / 2);rw[h0]at this ⊢;exact this
    |some ad=>exact hcall d ad rfl
   have HUp:Hid (C ((lo+hi) / 2) < 0->∀t,t < (lo+hi) / 2+1->C t < 0):=hid fun h t ht=>HD.out t ((lo+hi) / 2) (by omega) (by omega) h;have HDn:Hid (¬C ((lo+hi) / 2) < 0->∀t,(lo+hi) / 2<=t->t < n->¬C t < 0):=hid fun h t h1 h2 h3=>h (HD.out ((lo+hi) / 2) t h1 h2 h3);clear hcall hno HC KN HD HF;generalize C ((lo+hi) / 2)=y at *;by_cases hy:y < 0
   ·have HI2:Hid ((∀t,t < (lo+hi) / 2+1->C t < 0)/\(∀t,hi<=t->t < n->¬C t < 0)):=hid ⟨HUp.out hy,I.out.2⟩;have hy':decide (y < 0)=true:=decide_eq_true hy;clear I HUp HDn;go_wp2_with fail
    refine(KC.out _).mono ?_;rintro e w2 ⟨rfl,d2,rfl⟩;go_wp2_with fail
    go_roundg (hi - ((lo+hi) / 2+1))
    case measure=>omega
    case rel=>exact⟨(lo+hi) / 2+1,hi,_,by rw[show((lo:Int)+(hi:Int)) / 2+1=(((lo+hi) / 2+1:Nat):Int)by omega],rfl,by omega,hin,nR _,rfl,HI2⟩
   ·have HI2:Hid ((∀t,t < lo->C t < 0)/\(∀t,(lo+hi) / 2<=t->t < n->¬C t < 0)):=hid ⟨I.out.1,HDn.out hy⟩;have hy':decide (y < 0)=false:=decide_eq_false hy;clear I HUp HDn;go_wp2_with fail
    refine(KC.out _).mono ?_;rintro e w2 ⟨rfl,d2,rfl⟩;go_wp2_with fail
    go_roundg ((lo+hi) / 2 - lo)
    case measure=>omega
    case rel=>exact⟨lo,(lo+hi) / 2,_,rfl,by rw[show((lo:Int)+(hi:Int)) / 2=(((lo+hi) / 2:Nat):Int)by omega],by omega,by omega,nR _,rfl,HI2⟩
  ·obtain rfl:hi=lo:=by omega
   have HE:=hid (HF.out hi hin I.out.1 (fun t h1 h2=>by have:=I.out.2 t h1 h2;omega));clear HC HD HF KN I;go_wp2_with fail
   go_ret;exact⟨_,rfl,HE.out,_,rfl⟩
theorem Xj(w:World)(vr vq:Value)(rows:List (List Int))(q:List Int)(h:ISSc w vr rows)(hq:IS w vq q)(hS:SL rows)(hn:rows.length<=1099511627776)(hl:∀r∈rows,q.length<=r.length/\r.length<=1099511627776):
 Cl 74 #[vr,vq] w fun e w'=>e=.returned (.bool (yQ rows q))/\∃d,w'=w.drewN d:=by
 have KS:=hid (ks w vr vq rows q h hq hS hn hl);have HB:Hid (∀k,Sk rows q k->k<=rows.length/\yQ rows q=(decide (k < rows.length)&&decide (qD ((rows.getD k []).take q.length) q=0))):=hid fun k hk=>⟨hk.le,hk.beg hS⟩;obtain⟨ar,cr,rfl,hc⟩:=h
 have HC:Hid (∀j,j < rows.length->∃(b o:Nat) (au:Option Addr) (lr cu:Nat),ar=some ⟨b,o,none⟩/\w.cell? ⟨b,o+j,none⟩=some (.slice au lr cu)/\q.length<=lr/\lr<=cu/\∀d,Cl 71 #[.slice au q.length cu,vq] (w.drewN d) fun e w'=>e=.returned (.int .i64 (qD ((rows.getD j []).take q.length) q))/\∃q',w'=(w.drewN d).drewN q'):=hid fun j hj=>by
  rcases hc with h0|⟨b,o,rfl,h⟩
  ·omega
  ·obtain⟨u,h1,hI,a',n',c',e,hcap⟩:=h j hj;have hm:=hl _ (by rw[gD,gE hj];exact gM _:rows.getD j []∈rows);have hI':=hI;obtain⟨au,cu,eu,h2⟩:=hI;subst eu;simp only[Value.slice.injEq]at e;obtain⟨-,rfl,rfl⟩:=e;refine⟨b,o,au,_,cu,rfl,h1,hm.1,hcap,fun d=>?_⟩;have hqd:=hq.below (below_drewN (bI _ _) d);cases au with
   |none=>
    have h0:(rows.getD j []).length=0:=by
     rcases h2 with h2|⟨b2,o2,e2,-⟩
     ·exact h2
     ·cases e2
    have e1:(rows.getD j []).take q.length=[]:=by rw[List.length_eq_zero_iff.1 h0,List.take_nil]
    have e2:q.length=0:=by omega
    rw[e1,e2];exact qy (w.drewN d) _ vq [] q ⟨none,cu,rfl,Or.inl rfl⟩ hqd (by simp) (by omega)
   |some ad=>
    have h3:=Xi hI' hm.1;exact qy (w.drewN d) _ vq _ q (h3.below (below_drewN (bI _ _) d)) hqd (by rw[bQ];omega) (by omega)
 clear hc hS hl;obtain⟨aq,cq,rfl,-⟩:=hq;generalize yQ rows q=ans at *;obtain⟨C,hC⟩:∃C:Nat->Int,C=fun j=>qD ((rows.getD j []).take q.length) q:=⟨_,rfl⟩;have HCC:Hid (∀j,qD ((rows.getD j []).take q.length) q=C j):=hid fun j=>by rw[hC]
 simp only[HCC.out]at HC HB;clear hC HCC;generalize rows.length=n at *;generalize q.length=m at *;go_enter Tryz.func74,Tryz.ntmps74
 go_wp2_with fail
 refine KS.out.mono ?_;rintro e w2 ⟨k,rfl,hk,d,rfl⟩;obtain⟨hkn,hans⟩:=HB.out k hk;clear KS HB hk;by_cases hlt:k < n
 ·obtain⟨b,o,au,lr,cu,ea,c1,hmr,hrc,hcall⟩:=HC.out k hlt;subst ea;have i1:(k:Int) < (n:Int):=by omega
  have hmc:m<=cu:=by omega
  have KC:=hid hcall;have HA:Hid (ans=decide (C k=0)):=hid (by rw[hans,decide_eq_true hlt,Bool.true_and]);clear hcall HC hans;generalize C k=y at *;go_wp2_with fail
  refine(KC.out _).mono ?_;rintro e w3 ⟨rfl,d3,rfl⟩;go_wp2_with fail
  go_ret;exact⟨qG (by rw[HA.out];first|rfl|simp),_,rfl⟩
 ·have i1:¬((k:Int) < (n:Int)):=by omega
  rw[decide_eq_false hlt,Bool.false_and]at hans;subst hans;clear HC;go_wp2_with fail
  go_ret;exact⟨rfl,_,rfl⟩
theorem Ue{p:Int->Bool}{k:Nat}(hk:k < l.length):(l.take (k+1)).filter p=if p (l.getD k 0) then (l.take k).filter p++[l.getD k 0] else (l.take k).filter p:=by
 rw[tA,gE hk,List.filter_append];have e:l.getD k 0=l[k]:=by rw[gD,gE hk];rfl
 rw[e];simp only[Option.toList_some];by_cases h:p l[k]=true
 ·rw[if_pos h,List.filter_cons_of_pos h];rfl
 ·rw[if_neg h,List.filter_cons_of_neg h];simp
theorem ku(w:World)(v v2:Value)(l l2:List Int)(h:IS w v l)(hl:l.length<=1099511627776)(h2:IS w v2 l2)(hl2:l2.length<=1099511627776):
 Cl 20 #[v,v2] w fun e w'=>∃g cap,e=.returned (.slice (some ⟨g,0,none⟩) (shr l l2).length cap)/\w'.ownsRow w.heap.size 3 1 (.slice (some ⟨g,0,none⟩) (shr l l2).length cap) (shr l l2).length ((shr l l2).map (Value.int .i64))/\Bl w w':=by
 obtain⟨i0,hi,hz0,hz1,hz2⟩:=info_parts Tryz.infoInt;obtain⟨a,cap,rfl,hc⟩:=h;have H2:=hid h2;obtain⟨a2,cap2,rfl,-⟩:=h2;obtain⟨PL,hPL⟩:∃PL:Nat->List Int,PL=fun k=>(l.take k).filter fun x=>decide (x∈l2):=⟨_,rfl⟩;have HS:Hid (∀k,k < l.length->PL (k+1)=if decide (l.getD k 0∈l2) then PL k++[l.getD k 0] else PL k):=hid fun k hk=>by rw[hPL];exact Ue hk
 have H0:Hid (PL 0=[]):=hid (by rw[hPL];rfl);have HE:Hid (PL l.length=shr l l2):=hid (by rw[hPL];simp[shr])
 have HLE:Hid (∀k,(PL k).length<=k):=hid fun k=>by
  rw[hPL];exact bK (List.length_filter_le _ _) (by simp;omega)
 rw[<-HE.out];obtain⟨n,hn⟩:∃n,n=l.length:=⟨_,rfl⟩;rw[<-hn]at hc hl HS ⊢;have HC:=hid hc;clear hc hn hPL HE;go_enter Tryz.func20,Tryz.ntmps20
 go_wp2;have b0:Bl w (w.alloc (.cells #[] 3)):=(bI _ _).alloc (nR _) _;have HB0:=hid b0;clear b0;go_loopw [5,11] (fun v t wr=>∃k g cp lk:Nat,k<=n/\t=.int .i64 k/\v=.slice (some ⟨g,0,none⟩) lk cp/\lk<=k/\Hid (lk=(PL k).length/\wr.ownsRow w.heap.size 3 1 (.slice (some ⟨g,0,none⟩) lk cp) lk ((PL k).map (Value.int .i64))/\Bl w wr)) (fun _ t _=>n - (intOf t).toNat)
 case atStart=>exact⟨0,w.heap.size,0,0,nZ _,rfl,rfl,nR _,hid (by rw[H0.out];exact⟨rfl,oM w #[] 0 (nR _) (by decide) rfl,HB0.out⟩)⟩
 case round=>
  clear HB0;obtain⟨k,g,cp,lk,hk,rfl,rfl,hlk,HT⟩:=hrel;have hns:=HT.out.2.2.size;by_cases hkn:k < n
  ·have i1:(k:Int) < (n:Int):=by omega
   rcases HC.out with h0|⟨b,o,rfl,hcell⟩
   ·omega
   ·have c1:wr.cell? ⟨b,o+k,none⟩=some (.int .i64 (l.getD k 0)):=(HT.out.2.2.cell (bL w _ (hcell k hkn))).trans (hcell k hkn);have HK:=hid (zY wr _ l2 (l.getD k 0) (H2.out.below HT.out.2.2) hl2);have e1:=HS.out k hkn;clear hcell;generalize decide (l.getD k 0∈l2)=y at *;generalize l.getD k 0=x at *;cases y
    ·rw[if_neg (by decide)]at e1;have HF:Hid (lk=(PL (k+1)).length/\wr.ownsRow w.heap.size 3 1 (.slice (some ⟨g,0,none⟩) lk cp) lk ((PL (k+1)).map (Value.int .i64))/\Bl w wr):=hid (by rw[e1];exact HT.out);clear e1 HT;go_wp2_with fail
     refine HK.out.mono ?_;rintro e w1 ⟨rfl,hw1⟩;subst w1;go_wp2_with fail
     go_roundw
     case rel=>exact⟨k+1,g,cp,lk,by omega,by go_num,rfl,by omega,HF⟩
     case measure=>simp[intOf];omega
    ·rw[if_pos rfl]at e1;have E1:=hid e1;clear e1;go_wp2_with fail
     refine HK.out.mono ?_;rintro e w1 ⟨rfl,hw1⟩;subst w1
     go_wp2_with (first
      |(at_builtin;refine wpList_append_lies _ rfl _ _ 24 rfl w.heap.size 3 i0 (.int .i64 0) 1 8 Tryz.underlying24 hi hz0 hz1 hz2 rfl (by decide) (.slice (some ⟨g,0,none⟩) lk cp) _ _ rfl (HT.out.2.1.alloc _) ⟨_,0,none⟩ 1 1 [.int .i64 x] rfl rfl (qH _ _ _) (fun u hu=>by simp at hu;subst hu;rfl) (by decide) (by unfold maxLen;omega) (by omega) (by simp;omega) _ rfl ?_;intro g3 cp3 w3 hown3 hgrow3 hat3 hlt3)|fail)
     have HF:Hid (lk+1=(PL (k+1)).length/\w3.ownsRow w.heap.size 3 1 (.slice (some ⟨g3,0,none⟩) (lk+1) cp3) (lk+1) ((PL (k+1)).map (Value.int .i64))/\Bl w w3):=hid (by
      rw[E1.out,lA,lS,mA];exact⟨by rw[HT.out.1],hown3,(HT.out.2.2.alloc hns _).grown hgrow3 (by simp;omega) (fun q hq=>(HT.out.2.1.lt q hq).1)⟩)
     clear hown3 hgrow3 hat3 hlt3 HT;go_roundw
     case rel=>exact⟨k+1,g3,cp3,lk+1,by omega,by go_num,rfl,by omega,HF⟩
     case measure=>simp[intOf];omega
  ·obtain rfl:k=n:=by omega
   have i1:¬((k:Int) < (k:Int)):=by omega
   obtain⟨h1,h3,h4⟩:=HT.out;have HF:Hid (wr.ownsRow w.heap.size 3 1 (.slice (some ⟨g,0,none⟩) (PL k).length cp) (PL k).length ((PL k).map (Value.int .i64))/\Bl w wr):=hid (by rw[<-h1];exact⟨h3,h4⟩);have H1:=hid h1;clear h1 h3 h4 HT;go_wp2_with fail
   go_ret;exact⟨g,cp,by rw[H1.out];rfl,HF.out.1,HF.out.2⟩
theorem km(h:qP l=true){i:Nat}(hi:i < l.length):zp l i=true:=by
 unfold qP at h;rw[aT]at h;exact h i (by simpa using hi)
theorem jq(h:qP l=true):∀i,i < l.length->(i:Int)<=l.getD i 0/\l.getD i 0 < 6
 |0,hi=>by
  have:=km h hi;unfold zp at this;simp only[Bool.and_eq_true,decide_eq_true_eq]at this;omega
 |i+1,hi=>by
  have:=km h hi;have ih:=jq h i (by omega);unfold zp at this;simp only[Bool.and_eq_true,Bool.or_eq_true,decide_eq_true_eq,Nat.add_sub_cancel]at this;omega
theorem zx(h:qP l=true):l.length<=6:=by
 rcases Nat.lt_or_ge 6 l.length with h1|h1
 ·have:=jq h 6 h1;omega
 ·exact h1
theorem vz(h:qP l=true):l.Pairwise (·< ·):=by
 have step:∀j,j < l.length->∀i,i < j->l.getD i 0 < l.getD j 0:=by
  intro j;induction j with
  |zero=>intro _ i hi;omega
  |succ j ih=>
   intro hj i hi;have:=km h hj;unfold zp at this;simp only[Bool.and_eq_true,Bool.or_eq_true,decide_eq_true_eq,Nat.add_sub_cancel]at this;by_cases e:i=j
   ·subst e;omega
   ·have:=ih (by omega) i (by omega);omega
 rw[List.pairwise_iff_getElem];intro i j hi hj hij;have:=step j hj i hij;rw[gD,gE hi,gD,gE hj]at this;exact this
theorem zK(h:zE vs rows ws=true):qP vs=true/\rows.length<=10000/\∀r∈rows,r.length=vs.length:=by
 unfold zE at h;simp only[Bool.and_eq_true,decide_eq_true_eq]at h;refine⟨h.1.1.1,h.1.1.2,fun r hr=>?_⟩;obtain⟨i,hi,e⟩:=gO hr;have h1:=h.1.2;unfold xy at h1;rw[aT]at h1;have h2:=h1 i (by simpa using hi);unfold rowAt at h2;simp only[Bool.and_eq_true,decide_eq_true_eq]at h2;rw[gD,gE hi,Option.getD_some,e]at h2;omega
def kn(vs:List Int)(rows:List (List Int))(ws vars:List Int):Bool:=zE vs rows ws&&qP vars&&ko vars vs
structure TQ(W:World)(B:Nat)(v0 v1 v2:Value)(us:List Value)(vs:List Int)(rows:List (List Int))(ws:List Int):Prop where
 o0:W.ownsRow B 3 1 v0 vs.length (vs.map (Value.int .i64))
 rq:RQ W B v1 us rows
 o2:W.ownsRow B 3 1 v2 ws.length (ws.map (Value.int .i64))
 a02:Ap' v0 v2
 a0:∀i,i < rows.length->Ap' (us.getD i undef) v0
 a2:∀i,i < rows.length->Ap' (us.getD i undef) v2
theorem TQ.nil(W:World)(B:Nat):TQ W B (.slice none 0 0) (.slice none 0 0) (.slice none 0 0) [] [] [] []:=
 ⟨oN _ _ _ _,⟨oN _ _ _ _,rfl,fun i hi=>by simp at hi,fun i j _ hj=>by simp at hj⟩,oN _ _ _ _,fun g h=>by simp[Value.ownBlock]at h,fun i hi=>by simp at hi,fun i hi=>by simp at hi⟩
theorem TQ.set{off:Nat}{y:Value}{us:List Value}(h:TQ W B v0 v1 v2 us vs rows ws)(ht:∃cur,W.heap[p]?=some (.cells cur 53 (0,0))):TQ (W.setCell ⟨p,off,none⟩ y) B v0 v1 v2 us vs rows ws:=
 ⟨zd h.o0 ht (by decide),h.rq.set ht,zd h.o2 ht (by decide),h.a02,h.a0,h.a2⟩
def xW(n:Nat):List Int:=List.replicate n 1
theorem uj(n:Nat):(xW n).map (Value.int .i64)=List.replicate n (.int .i64 1):=by simp[xW]
theorem y7(n:Nat):(xW n).length=n:=by simp[xW]
theorem Xf(w:World)(v0 v1 v2 vv:Value)(vs:List Int)(rows:List (List Int))(ws vars:List Int)(h:IT w v0 v1 v2 vs rows ws)(hv:IS w vv vars)(hlv:vars.length<=1099511627776)(hls:vs.length<=1099511627776)(hS:qQ rows):
 Cl 59 #[.agg #[v0,v1,v2],vv] w fun e w'=>∃x0 x1 x2 us,e=.returned (.agg #[x0,x1,x2])/\(if kn vs rows ws vars=true then TQ w' w.heap.size x0 x1 x2 us vars (srt (rows.map (qK vs vars))) (xW (srt (rows.map (qK vs vars))).length) else TQ w' w.heap.size x0 x1 x2 us [] [] [])/\Bl w w':=by
 obtain⟨W1,hW1⟩:∃W1,W1=(w.alloc (.cells #[v0,v1,v2] 53)).alloc (.cells #[.slice none 0 0,.slice none 0 0,.slice none 0 0] 53):=⟨_,rfl⟩;have hB1:Bl w W1:=by rw[hW1];exact((bI _ _).alloc (nR _) _).alloc (by simp) _
 have HT1:Hid (TX W1 w.heap.size v0 v1 v2):=hid (by rw[hW1];exact(TX.made _ _ _ _).below ((bI _ _).alloc (nR _) _))
 have HR1:Hid (TX W1 (w.heap.size+1) (.slice none 0 0) (.slice none 0 0) (.slice none 0 0)):=hid (by
  rw[hW1];have:=TX.made (w.alloc (.cells #[v0,v1,v2] 53)) (.slice none 0 0) (.slice none 0 0) (.slice none 0 0);rw[World.size_alloc]at this;exact this)
 have HI:Hid (∀W,Bl W1 W->IT W v0 v1 v2 vs rows ws/\IS W vv vars):=hid fun W hW=>⟨h.below (bt hB1 hW),hv.below (bt hB1 hW)⟩;have KT:=hid (kF W1 v0 v1 v2 vs rows ws (HI.out W1 (bI _ _)).1 hls hS);have KV:Hid (∀W,Bl W1 W->Cl 75 #[vv] W fun e w'=>e=.returned (.bool (qP vars))/\w'=W):=hid fun W hW=>zP W vv vars (HI.out W hW).2 hlv;have KP:Hid (∀W,Bl W1 W->Cl 58 #[vv,v0] W fun e w'=>∃v,e=.returned v/\w'.ownsRow W.heap.size 3 1 v (plc (fun i=>decide (vars.getD i 0∈vs)) vars.length).length ((plc (fun i=>decide (vars.getD i 0∈vs)) vars.length).map (Value.int .i64))/\Bl W w'):=hid fun W hW=>xR W vv v0 vars vs (HI.out W hW).2 (HI.out W hW).1.vs hlv hls;have hps:=UU vars vs;have HB1:=hid hB1;obtain⟨a0,c0,e0,-⟩:=h.vs;obtain⟨a1,c1,e1,-⟩:=h.rows;obtain⟨a2,c2,e2,-⟩:=h.ws;obtain⟨av,cv,e3,-⟩:=hv;have d0:=HT1.out.c0;have d1:=HT1.out.c1;have d2:=HT1.out.c2;subst e0 e1 e2 e3
 have HG:Hid (kn vs rows ws vars=true->(vars.length<=6/\vs.length<=6/\rows.length<=10000/\(∀r∈rows,r.length=vs.length)/\ze rows (plc (fun i=>decide (vs.getD i 0∈vars)) vs.length)=rows.map (qK vs vars))):=hid fun hb=>by
  unfold kn at hb;simp only[Bool.and_eq_true]at hb;obtain⟨⟨h1,h2⟩,h3⟩:=hb;obtain⟨h4,h5,h6⟩:=zK h1;refine⟨zx h2,zx h4,h5,h6,qBI (vz h4) (vz h2) fun x hx=>?_⟩;unfold ko at h3;rw[aT]at h3;simpa using h3 x hx
 have KPr:Hid (kn vs rows ws vars=true->∀W,Bl W1 W->Cl 85 #[.agg #[.slice a0 vs.length c0,.slice a1 rows.length c1,.slice a2 ws.length c2],.slice av vars.length cv] W fun e w'=>∃v uo,e=.returned v/\RQ w' W.heap.size v uo (srt (rows.map (qK vs vars)))/\Bl W w'):=hid fun hb W hW=>by
  obtain⟨g1,g2,g3,g4,g5⟩:=HG.out hb;have:=kH W _ _ _ _ vs rows ws vars (HI.out W hW).1 (HI.out W hW).2 (by omega) (by omega) (by omega) g4;rw[g5]at this;exact this
 have KPl:Hid (kn vs rows ws vars=true->∀W vr,Bl W1 W->(∃a c,vr=.slice a (srt (rows.map (qK vs vars))).length c)->Cl 62 #[.slice av vars.length cv,vr] W fun e w'=>∃v0 v2,e=.returned (.agg #[v0,vr,v2])/\w'.ownsRow W.heap.size 3 1 v0 vars.length (vars.map (Value.int .i64))/\w'.ownsRow W.heap.size 3 1 v2 (srt (rows.map (qK vs vars))).length (List.replicate (srt (rows.map (qK vs vars))).length (.int .i64 1))/\Ap' v0 v2/\Bl W w'):=hid fun hb W vr hW hvr=>by
  obtain⟨g1,g2,g3,g4,g5⟩:=HG.out hb;exact uO W _ vr vars _ (HI.out W hW).2 hvr (by omega) (bK (x8 _ _ (nR _)) (by rw[lM];omega))
 clear h hB1 hlv hls hS;unfold kn at *;cases ht:zE vs rows ws
 ·rw[ht]at KT;clear KV KP KPr KPl HG hps ht;generalize vs.length=l0 at *;generalize rows.length=l1 at *;generalize ws.length=l2 at *;generalize vars.length=l3 at *;go_enter Tryz.func59,Tryz.ntmps59
  go_upto_region 1 with fail
  rw[<-hW1];clear hW1;go_wp2_with fail
  refine KT.out.mono ?_;rintro e w2 ⟨rfl,hb2⟩;have HR2:=hid (HR1.out.below hb2);have HT2:=hid (HT1.out.below hb2);have HQ2:=hid hb2;have HB2:=hid (bt HB1.out hb2);clear hb2 KT HR1 d0 d1 d2 HB1;have f0:=HR2.out.free 0;have f1:=HR2.out.free 1;have f2:=HR2.out.free 2;have r0:=HR2.out.c0;have r1:=HR2.out.c1;have r2:=HR2.out.c2;go_wp2_with fail
  refine bodyPost_ret (v:=.agg #[.slice none 0 0,.slice none 0 0,.slice none 0 0]) (by simp[results,Tryz.results59,go_sem,r0,r1,r2]) rfl ⟨_,_,_,rfl,⟨[],TQ.nil _ _⟩,((HB2.out.setCell (Nat.le_succ _) _).setCell (Nat.le_succ _) _).setCell (Nat.le_succ _) _⟩
 ·cases hs:qP vars
  ·rw[ht]at KT;rw[hs]at KV;clear KP KPr KPl HG hps ht hs;generalize vs.length=l0 at *;generalize rows.length=l1 at *;generalize ws.length=l2 at *;generalize vars.length=l3 at *;go_enter Tryz.func59,Tryz.ntmps59
   go_upto_region 1 with fail
   rw[<-hW1];clear hW1;go_wp2_with fail
   refine KT.out.mono ?_;rintro e w2 ⟨rfl,hb2⟩;have HR2:=hid (HR1.out.below hb2);have HT2:=hid (HT1.out.below hb2);have HQ2:=hid hb2;have HB2:=hid (bt HB1.out hb2);clear hb2 KT HR1 d0 d1 d2 HB1;go_wp2_with fail
   refine(KV.out w2 HQ2.out).mono ?_;rintro e w3 ⟨rfl,hw3⟩;subst w3;have f0:=HR2.out.free 0;have f1:=HR2.out.free 1;have f2:=HR2.out.free 2;have r0:=HR2.out.c0;have r1:=HR2.out.c1;have r2:=HR2.out.c2;go_wp2_with fail
   refine bodyPost_ret (v:=.agg #[.slice none 0 0,.slice none 0 0,.slice none 0 0]) (by simp[results,Tryz.results59,go_sem,r0,r1,r2]) rfl ⟨_,_,_,rfl,⟨[],TQ.nil _ _⟩,((HB2.out.setCell (Nat.le_succ _) _).setCell (Nat.le_succ _) _).setCell (Nat.le_succ _) _⟩
  ·cases hq:ko vars vs
   ·rw[ht]at KT;rw[hs]at KV;rw[hq]at hps;have i1:((plc (fun i=>decide (vars.getD i 0∈vs)) vars.length).length:Int) < (vars.length:Int):=by have:=of_decide_eq_true (hps.trans rfl);omega
    clear KPr KPl HG hps ht hs hq;generalize (plc (fun i=>decide (vars.getD i 0∈vs)) vars.length).length=lp at *;generalize vs.length=l0 at *;generalize rows.length=l1 at *;generalize ws.length=l2 at *;generalize vars.length=l3 at *;go_enter Tryz.func59,Tryz.ntmps59
    go_upto_region 1 with fail
    rw[<-hW1];clear hW1;go_wp2_with fail
    refine KT.out.mono ?_;rintro e w2 ⟨rfl,hb2⟩;have HR2:=hid (HR1.out.below hb2);have HT2:=hid (HT1.out.below hb2);have HQ2:=hid hb2;have HB2:=hid (bt HB1.out hb2);have d0:=HT2.out.c0;clear hb2 KT HR1 d1 d2 HB1 HT1;go_wp2_with fail
    refine(KV.out w2 HQ2.out).mono ?_;rintro e w3 ⟨rfl,hw3⟩;subst w3;go_wp2_with fail
    refine(KP.out w2 HQ2.out).mono ?_;rintro e w3 ⟨v3,rfl,ho3,hb3⟩;obtain⟨a3,c3,e3⟩:=zD ho3;subst e3;have HR3:=hid (HR2.out.below hb3);have HT3:=hid (HT2.out.below hb3);have HQ3:=hid (bt HQ2.out hb3);have HB3:=hid (bt HB2.out hb3);clear ho3 hb3 HR2 HT2 HQ2 HB2 KV KP d0;have f0:=HR3.out.free 0;have f1:=HR3.out.free 1;have f2:=HR3.out.free 2;have r0:=HR3.out.c0;have r1:=HR3.out.c1;have r2:=HR3.out.c2;go_wp2_with fail
    refine bodyPost_ret (v:=.agg #[.slice none 0 0,.slice none 0 0,.slice none 0 0]) (by simp[results,Tryz.results59,go_sem,r0,r1,r2]) rfl ⟨_,_,_,rfl,⟨[],TQ.nil _ _⟩,((HB3.out.setCell (Nat.le_succ _) _).setCell (Nat.le_succ _) _).setCell (Nat.le_succ _) _⟩
   ·have KPr':=hid (KPr.out (by rw[ht,hs,hq];rfl));have KPl':=hid (KPl.out (by rw[ht,hs,hq];rfl));rw[ht]at KT;rw[hs]at KV;rw[hq]at hps;have i1:¬(((plc (fun i=>decide (vars.getD i 0∈vs)) vars.length).length:Int) < (vars.length:Int)):=by have:=of_decide_eq_false (hps.trans rfl);omega
    clear KPr KPl HG hps ht hs hq;generalize (plc (fun i=>decide (vars.getD i 0∈vs)) vars.length).length=lp at *;obtain⟨R,hR⟩:∃R,R=srt (rows.map (qK vs vars)):=⟨_,rfl⟩;have HRe:=hid hR;rw[<-hR]at KPr' KPl';clear hR;generalize vs.length=l0 at *;generalize rows.length=l1 at *;generalize ws.length=l2 at *;generalize hl3:vars.length=l3 at *;have HL3:=hid hl3;clear hl3;go_enter Tryz.func59,Tryz.ntmps59
    go_upto_region 1 with fail
    rw[<-hW1];clear hW1;go_wp2_with fail
    refine KT.out.mono ?_;rintro e w2 ⟨rfl,hb2⟩;have HR2:=hid (HR1.out.below hb2);have HT2:=hid (HT1.out.below hb2);have HQ2:=hid hb2;have HB2:=hid (bt HB1.out hb2);have d0:=HT2.out.c0;clear hb2 KT HR1 d1 d2 HB1 HT1;go_wp2_with fail
    refine(KV.out w2 HQ2.out).mono ?_;rintro e w3 ⟨rfl,hw3⟩;subst w3;go_wp2_with fail
    refine(KP.out w2 HQ2.out).mono ?_;rintro e w3 ⟨v3,rfl,ho3,hb3⟩;obtain⟨a3,c3,e3⟩:=zD ho3;subst e3;have HR3:=hid (HR2.out.below hb3);have HT3:=hid (HT2.out.below hb3);have HQ3:=hid (bt HQ2.out hb3);have HB3:=hid (bt HB2.out hb3);clear ho3 hb3 HR2 HT2 HQ2 HB2 KV KP d0;have d0:=HT3.out.c0;have d1:=HT3.out.c1;have d2:=HT3.out.c2;go_wp2_with fail
    refine(KPr'.out w3 HQ3.out).mono ?_;rintro e w4 ⟨v4,us,rfl,hQ4,hb4⟩;have HR4:=hid (HR3.out.below hb4);have HQ4:=hid (bt HQ3.out hb4);have HB4:=hid (bt HB3.out hb4);have HM4:=hid (hQ4.base HB3.out.size);have KPl4:=hid (KPl'.out w4 v4 HQ4.out hQ4.sl);obtain⟨a4,c4,e4⟩:=hQ4.sl;subst e4;clear hQ4 hb4 KPr' KPl' d0 d1 d2 HT3 HR3 HQ3 HB3;go_wp2_with fail
    refine KPl4.out.mono ?_;rintro e w5 ⟨x0,x2,rfl,ho0,ho2,hap,hb5⟩;have HR5:=hid (HR4.out.below hb5);have HB5:=hid (bt HB4.out hb5)
    have HTQ:Hid (TQ w5 w.heap.size x0 (.slice a4 R.length c4) x2 us vars R (xW R.length)):=hid ⟨qF (by rw[HL3.out];exact ho0) HB4.out.size,HM4.out.below hb5,qF (by rw[y7,uj];exact ho2) HB4.out.size,hap,fun i hi g h1 h2=>by
     have e1:=((HM4.out.each i hi).lt g h1).2;have e2:=(ho0.lt g h2).1;omega,fun i hi g h1 h2=>by
     have e1:=((HM4.out.each i hi).lt g h1).2;have e2:=(ho2.lt g h2).1;omega⟩
    obtain⟨b0,k0,e5⟩:=zD ho0;obtain⟨b2,k2,e6⟩:=zD ho2;subst e5 e6;clear ho0 ho2 hap hb5 KPl4 HR4 HB4 HM4;have f0:=HR5.out.free 0;have f1:=HR5.out.free 1;have f2:=HR5.out.free 2;have r0:=HR5.out.c0;have r1:=HR5.out.c1;have r2:=HR5.out.c2;have HTy:=hid HR5.out.typ;go_wp2_with fail
    refine bodyPost_ret (v:=.agg #[.slice b0 l3 k0,.slice a4 R.length c4,.slice b2 R.length k2]) (by simp[results,Tryz.results59,go_sem,r0,r1,r2]) rfl ⟨_,_,_,rfl,⟨us,?_⟩,((HB5.out.setCell (Nat.le_succ _) _).setCell (Nat.le_succ _) _).setCell (Nat.le_succ _) _⟩;rw[<-HRe.out];exact((HTQ.out.set HTy.out).set (ql HTy.out)).set (ql (ql HTy.out))
theorem TX.set2(h:TX W p v0 v1 v2)(y:Value):TX (W.setCell ⟨p,2,none⟩ y) p v0 v1 y:=⟨by rw[bG _ _ _ _ _ _ h.blk];rfl⟩
theorem TX.grown{w3:World}{s:Nat}{u:Value}{e:TypeId}{xs:List Value}{o:Obj}(h:TX W p v0 v1 v2)(hu:W.ownsRow B e s u n xs)(he:e≠53)(hg:(W.alloc o).grownBy w3 u.ownBlock):TX w3 p v0 v1 v2:=⟨(zi hg h.lt (own_ne hu h.typ he)).trans h.blk⟩
end Go.Proofs.YtjbpgdpciinlcaaGreat
