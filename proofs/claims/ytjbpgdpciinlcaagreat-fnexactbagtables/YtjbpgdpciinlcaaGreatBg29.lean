import Derived.Test.YtjbpgdpciinlcaaGreatBg28
set_option maxHeartbeats 40000000
set_option maxRecDepth 1000000
namespace Go.Proofs.YtjbpgdpciinlcaaGreat
open Go.RowKit
variable {k x:Int}{es:List (List Int)}{bag l:List Int}{B n:Nat}{f:Nat->Rat}
def jh(v:Int)(bs:List (List Int))(ps:List Int)(i:Nat):Bool:=decide (v∈bs.getD i [])&&!(decide (0<=ps.getD i 0)&&decide (v∈bs.getD (ps.getD i 0).toNat []))
def qx(v:Int)(bs:List (List Int))(ps:List Int):Nat->Nat
 |0=>0
 |n+1=>qx v bs ps n+if jh v bs ps n then 1 else 0
def uy(k:Int)(bs:List (List Int))(ps:List Int):Bool:=(List.range k.toNat).all fun v=>decide (qx (v:Int) bs ps bs.length=1)
def zV(h:Int)(e:List Int)(bs:List (List Int)):Bool:=if e.length=0 then decide (h=-1) else decide (0<=h)&&decide (h < (bs.length:Int))&&e.all fun x=>decide (x∈bs.getD h.toNat [])
def vO(hs:List Int)(es bs:List (List Int)):Bool:=decide (hs.length=es.length)&&(List.range es.length).all fun i=>zV (hs.getD i 0) (es.getD i []) bs
theorem ji(v:Int)(bs:List (List Int))(ps:List Int):∀n,qx v bs ps n<=n
 |0=>nR _
 |n+1=>by
  have:=ji v bs ps n;unfold qx;split <;> omega
def jk(ps:List Int)(n:Nat):Prop:=ps.length=n/\∀i,i < n->ps.getD i 0=-1∨(0<=ps.getD i 0/\ps.getD i 0 < (n:Int))
theorem qCN{ps:List Int}(h:vG ps n=true):jk ps n:=by
 unfold vG at h;rw[bA,dE,aT]at h;have hl:ps.length=n:=by omega
 refine⟨hl,fun i hi=>?_⟩;have:=h.2 i (by simpa[hl]using hi);unfold yP at this;rw[Bool.or_eq_true,bA,dE,dE,dE]at this;omega
theorem UI(w:World)(vb vp vh vw:Value)(x n d:Int)(bs:List (List Int))(ps:List Int)(hb:ISS w vb bs)(hl:qQ bs)(hl12:bs.length<=12)(hp:IS w vp ps)(hok:jk ps bs.length):
 Cl 80 #[.int .i64 x,.agg #[vb,vp,vh,vw,.int .i64 n,.int .i64 d]] w fun e w'=>e=.returned (.int .i64 (qx x bs ps bs.length))/\Bl w w':=by
 have HB0:Hid (Bl w (w.alloc (.cells #[vb,vp,vh,vw,.int .i64 n,.int .i64 d] 39))):=hid ((bI _ _).alloc (nR _) _);have c0:(w.alloc (.cells #[vb,vp,vh,vw,.int .i64 n,.int .i64 d] 39)).cell? ⟨w.heap.size,0,none⟩=some vb:=by rw[cA _ _ _ _ rfl];rfl
 have c1:(w.alloc (.cells #[vb,vp,vh,vw,.int .i64 n,.int .i64 d] 39)).cell? ⟨w.heap.size,1,none⟩=some vp:=by rw[cA _ _ _ _ rfl];rfl
 obtain⟨W,hW⟩:∃W,W=w.alloc (.cells #[vb,vp,vh,vw,.int .i64 n,.int .i64 d] 39):=⟨_,rfl⟩;rw[<-hW]at HB0 c0 c1;obtain⟨hpl,hpo⟩:=hok;have HP0:=hp.below HB0.out;have HBS:=hb.below HB0.out;clear hb hp;obtain⟨a,cap,rfl,hc⟩:=HBS;obtain⟨a2,cap2,rfl,hc2⟩:=HP0;rw[hpl]at hc2 c1;obtain⟨hl1,hl2⟩:=hl;have HC:=hid hc;have HC2:=hid hc2;have HL:=hid hl2;have HPO:=hid hpo;have HT:Hid (∀i,qx x bs ps (i+1)=qx x bs ps i+if jh x bs ps i then 1 else 0):=hid fun i=>rfl;have HTL:=hid (ji x bs ps);have HTA:Hid (∀i,jh x bs ps i=(decide (x∈bs.getD i [])&&!(decide (0<=ps.getD i 0)&&decide (x∈bs.getD (ps.getD i 0).toNat [])))):=hid fun i=>rfl;have HT0:Hid (qx x bs ps 0=0):=hid rfl;obtain⟨m,hm⟩:∃m,m=bs.length:=⟨_,rfl⟩;have hpl2:ps.length=m:=by omega
 rw[<-hm]at HC HC2 HPO hl1 hl12 c0 c1 hW ⊢;rw[hpl2]at hW ⊢;clear hc hc2 hl2 hpo hpl hm hpl2;generalize qx x bs ps=TN at *;go_enter Tryz.func80,Tryz.ntmps80
 go_upto_region 1 with fail
 rw[<-hW];clear hW;go_wp2_with fail
 go_loop [5,13] (fun s t=>∃j:Nat,j<=m/\t=.int .i64 j/\s=.int .i64 (TN j)) (fun _ t=>m - (intOf t).toNat)
 case atStart=>exact⟨0,nZ _,rfl,by rw[HT0.out];rfl⟩
 case round=>
  obtain⟨j,hj,rfl,rfl⟩:=hrel;by_cases hjn:j < m
  ·have i1:(j:Int) < (m:Int):=by omega
   rcases HC.out with h0|⟨b,o,rfl,hcell⟩
   ·omega
   rcases HC2.out with h0|⟨b2,o2,rfl,hcell2⟩
   ·omega
   have HCE:=hid hcell;obtain⟨u,e1,hu⟩:=hcell j hjn;have e2:=hcell2 j hjn;have HK1:=hid (xl W u (bs.getD j []) x hu (HL.out j));obtain⟨a3,cap3,rfl,-⟩:=hu;have hpo:=HPO.out j hjn;have hta:=HTA.out j;have htt:=HT.out j;have htl:=HTL.out j;clear hcell hcell2;generalize (bs.getD j []).length=lj at *;generalize decide (x∈bs.getD j [])=f1 at *;generalize ps.getD j 0=y at *;generalize jh x bs ps j=tp at *;rcases hpo with rfl|⟨hy0,hym⟩
   ·rw[show(decide ((0:Int)<=-1))=false by decide,Bool.false_and,Bool.not_false,Bool.and_true]at hta;subst hta;go_wp2_with fail
    refine HK1.out.mono ?_;rintro e w1 ⟨rfl,hw1⟩;subst w1;cases tp
    ·go_wp2_with fail
     go_round
     case rel=>exact⟨j+1,by omega,by go_num,by rw[htt];simp⟩
     case measure=>simp[intOf];omega
    ·go_wp2_with fail
     go_round
     case rel=>exact⟨j+1,by omega,by go_num,by rw[htt];simp⟩
     case measure=>simp[intOf];omega
   ·obtain⟨z,rfl⟩:∃z:Nat,y=(z:Int):=⟨y.toNat,by omega⟩;have hzm:z < m:=by omega
    obtain⟨u2,e3,hu2⟩:=HCE.out z hzm;rw[show((z:Int)).toNat=z by omega]at hta;have HK2:=hid (xl W u2 (bs.getD z []) x hu2 (HL.out z));obtain⟨a4,cap4,rfl,-⟩:=hu2;generalize (bs.getD z []).length=lz at *;generalize decide (x∈bs.getD z [])=f2 at *;rw[decide_eq_true hy0,Bool.true_and]at hta;go_wp2_with fail
    refine HK2.out.mono ?_;rintro e w1 ⟨rfl,hw1⟩;subst w1;go_wp2_with fail
    refine HK1.out.mono ?_;rintro e w1 ⟨rfl,hw1⟩;subst w1;cases f1 <;> cases f2 <;> (subst hta)
    ·go_wp2_with fail
     go_round
     case rel=>exact⟨j+1,by omega,by go_num,by rw[htt];simp⟩
     case measure=>simp[intOf];omega
    ·go_wp2_with fail
     go_round
     case rel=>exact⟨j+1,by omega,by go_num,by rw[htt];simp⟩
     case measure=>simp[intOf];omega
    ·go_wp2_with fail
     go_round
     case rel=>exact⟨j+1,by omega,by go_num,by rw[htt];simp⟩
     case measure=>simp[intOf];omega
    ·go_wp2_with fail
     go_round
     case rel=>exact⟨j+1,by omega,by go_num,by rw[htt];simp⟩
     case measure=>simp[intOf];omega
  ·obtain rfl:j=m:=by omega
   have i1:¬((j:Int) < (j:Int)):=by omega
   go_wp2_with fail
   go_ret;exact⟨rfl,HB0.out⟩
theorem Yl(w:World)(vb vp vh vw:Value)(k n d:Int)(bs:List (List Int))(ps:List Int)(hk:k<=6)(hb:ISS w vb bs)(hl:qQ bs)(hl12:bs.length<=12)(hp:IS w vp ps)(hok:jk ps bs.length):
 Cl 55 #[.int .i64 k,.agg #[vb,vp,vh,vw,.int .i64 n,.int .i64 d]] w fun e w'=>e=.returned (.bool (uy k bs ps))/\Bl w w':=by
 have HB0:Hid (Bl w (w.alloc (.cells #[vb,vp,vh,vw,.int .i64 n,.int .i64 d] 39))):=hid ((bI _ _).alloc (nR _) _);have c0:(w.alloc (.cells #[vb,vp,vh,vw,.int .i64 n,.int .i64 d] 39)).cell? ⟨w.heap.size,0,none⟩=some vb:=by rw[cA _ _ _ _ rfl];rfl
 have c1:(w.alloc (.cells #[vb,vp,vh,vw,.int .i64 n,.int .i64 d] 39)).cell? ⟨w.heap.size,1,none⟩=some vp:=by rw[cA _ _ _ _ rfl];rfl
 have c2:(w.alloc (.cells #[vb,vp,vh,vw,.int .i64 n,.int .i64 d] 39)).cell? ⟨w.heap.size,2,none⟩=some vh:=by rw[cA _ _ _ _ rfl];rfl
 have c3:(w.alloc (.cells #[vb,vp,vh,vw,.int .i64 n,.int .i64 d] 39)).cell? ⟨w.heap.size,3,none⟩=some vw:=by rw[cA _ _ _ _ rfl];rfl
 have c4:(w.alloc (.cells #[vb,vp,vh,vw,.int .i64 n,.int .i64 d] 39)).cell? ⟨w.heap.size,4,none⟩=some (.int .i64 n):=by rw[cA _ _ _ _ rfl];rfl
 have c5:(w.alloc (.cells #[vb,vp,vh,vw,.int .i64 n,.int .i64 d] 39)).cell? ⟨w.heap.size,5,none⟩=some (.int .i64 d):=by rw[cA _ _ _ _ rfl];rfl
 obtain⟨W,hW⟩:∃W,W=w.alloc (.cells #[vb,vp,vh,vw,.int .i64 n,.int .i64 d] 39):=⟨_,rfl⟩;rw[<-hW]at HB0 c0 c1 c2 c3 c4 c5;have HP:=hid (hp.below HB0.out);have HBS:=hid (hb.below HB0.out);have HL:=hid hl;have HOK:=hid hok;obtain⟨res,hres⟩:∃r,r=uy k bs ps:=⟨_,rfl⟩;rw[<-hres]
 have HF:Hid (∀v:Nat,v < k.toNat->qx (v:Int) bs ps bs.length≠1->res=false):=hid fun v hv e=>by
  rw[hres];unfold uy;exact qZ hv (by simpa using e)
 have HT:Hid ((∀v:Nat,v < k.toNat->qx (v:Int) bs ps bs.length=1)->res=true):=hid fun h1=>by
  rw[hres];unfold uy;exact qa (fun v hv=>by simpa using h1 v hv)
 clear hb hp hl hok hres;go_enter Tryz.func55,Tryz.ntmps55
 go_upto_region 1 with fail
 rw[<-hW];clear hW;go_wp2_with fail
 go_loopw [7] (fun t wr=>∃v:Nat,(v=0∨v<=k.toNat)/\t=.int .i64 v/\Bl W wr/\Hid (∀i:Nat,i < v->qx (i:Int) bs ps bs.length=1)) (fun t _=>k.toNat - (intOf t).toNat)
 case atStart=>exact⟨0,Or.inl rfl,rfl,bI _ _,hid (fun i hi=>by omega)⟩
 case round=>
  obtain⟨v,hv,rfl,hnx,hok⟩:=hrel;by_cases hvk:(v:Int) < k
  ·have d0:=qI hnx c0;have d1:=qI hnx c1;have d2:=qI hnx c2;have d3:=qI hnx c3;have d4:=qI hnx c4;have d5:=qI hnx c5;have KT:=hid (UI wr vb vp vh vw (v:Int) n d bs ps (HBS.out.below hnx) HL.out hl12 (HP.out.below hnx) HOK.out);have fin:=HF.out v (by omega)
   have nxt:qx (v:Int) bs ps bs.length=1->Hid (∀i:Nat,i < v+1->qx (i:Int) bs ps bs.length=1):=fun e i hi=>by
    by_cases e2:i=v
    ·rw[e2];exact e
    ·exact hok.out i (by omega)
   have htl:=ji (v:Int) bs ps bs.length;clear hok;generalize qx (v:Int) bs ps bs.length=tn at *;by_cases ht:tn=1
   ·have hf:=nxt ht;subst ht;clear fin nxt;go_wp2_with fail
    refine KT.out.mono ?_;rintro e w1 ⟨rfl,hb1⟩;go_wp2_with fail
    go_roundw
    case rel=>exact⟨v+1,by omega,by go_num,bt hnx hb1,hf⟩
    case measure=>simp[intOf];omega
   ·obtain rfl:=fin ht;have e1:((tn:Int) != 1)=true:=by simp;omega
    clear nxt;go_wp2_with fail
    refine KT.out.mono ?_;rintro e w1 ⟨rfl,hb1⟩;go_wp2_with fail
    go_ret;exact⟨rfl,bt HB0.out (bt hnx hb1)⟩
  ·obtain rfl:=HT.out (fun i hi=>hok.out i (by omega));clear hok;go_wp2_with fail
   go_ret;exact⟨rfl,bt HB0.out hnx⟩
theorem qCO{edge:List Int}:decide ((plc (fun i=>decide (edge.getD i 0∈bag)) edge.length).length=edge.length)=edge.all fun x=>decide (x∈bag):=by
 have h:(plc (fun i=>decide (edge.getD i 0∈bag)) edge.length).length=edge.length↔∀i,i < edge.length->edge.getD i 0∈bag:=by
  unfold plc;rw[lM];have e:edge.length=(List.range edge.length).length:=by simp
  constructor
  ·intro h i hi;have h2:((List.range edge.length).filter fun i=>decide (edge.getD i 0∈bag)).length=(List.range edge.length).length:=by rw[h];exact e
   have:=(List.length_filter_eq_length_iff.1 h2) i (by simpa using hi);simpa using this
  ·intro h;have:((List.range edge.length).filter fun i=>decide (edge.getD i 0∈bag)).length=(List.range edge.length).length:=List.length_filter_eq_length_iff.2 (fun i hi=>by simpa using h i (by simpa using hi));rw[this,<-e]
 cases hb:(edge.all fun x=>decide (x∈bag))
 ·refine decide_eq_false fun h1=>?_;rw[List.all_eq_false]at hb;obtain⟨x,hx,hx2⟩:=hb;obtain⟨i,hi,e⟩:=xu hx;exact hx2 (by rw[<-e];simpa using h.1 h1 i hi)
 ·refine decide_eq_true (h.2 fun i hi=>?_);rw[aT]at hb;simpa using hb _ (xY hi)
theorem UJ(w:World)(ve vb:Value)(h:Int)(e:List Int)(bs:List (List Int))(he:IS w ve e)(hle:e.length<=1099511627776)(hb:ISS w vb bs)(hl:qQ bs):
 Cl 81 #[.int .i64 h,ve,vb] w fun r w'=>r=.returned (.bool (zV h e bs))/\Bl w w':=by
 have HE:=hid he;obtain⟨a,cap,rfl,-⟩:=he;obtain⟨a2,cap2,rfl,hc⟩:=hb;obtain⟨hl1,hl2⟩:=hl;obtain⟨res,hres⟩:∃r,r=zV h e bs:=⟨_,rfl⟩;rw[<-hres];by_cases h0:e.length=0
 ·have hr:res=decide (h=-1):=by rw[hres];unfold zV;rw[if_pos h0]
  clear hres hc HE;rw[h0];by_cases h1:h=-1
  ·rw[decide_eq_true h1]at hr;subst h1 hr;go_enter Tryz.func81,Tryz.ntmps81
   go_wp2_with fail
   go_ret;exact⟨rfl,bI _ _⟩
  ·rw[decide_eq_false h1]at hr;subst hr;have e1:(h == -1)=false:=by simpa using h1
   go_enter Tryz.func81,Tryz.ntmps81
   go_wp2_with fail
   go_ret;exact⟨qG (by simp),bI _ _⟩
 have hr:res=(decide (0<=h)&&decide (h < (bs.length:Int))&&e.all fun x=>decide (x∈bs.getD h.toNat [])):=by rw[hres];unfold zV;rw[if_neg h0]
 have d0:¬((e.length:Int)=0):=by omega
 clear hres;by_cases h1:0<=h
 case neg=>
  rw[decide_eq_false h1,Bool.false_and,Bool.false_and]at hr;subst hr;clear hc HE;generalize e.length=n at *;go_enter Tryz.func81,Tryz.ntmps81
  go_wp2_with fail
  go_ret;exact⟨rfl,bI _ _⟩
 by_cases h2:h < (bs.length:Int)
 case neg=>
  rw[decide_eq_false h2,Bool.and_false,Bool.false_and]at hr;subst hr;clear hc HE;generalize e.length=n at *;go_enter Tryz.func81,Tryz.ntmps81
  go_wp2_with fail
  go_ret;exact⟨rfl,bI _ _⟩
 rw[decide_eq_true h1,decide_eq_true h2,Bool.true_and,Bool.true_and]at hr;obtain⟨z,rfl⟩:∃z:Nat,h=(z:Int):=⟨h.toNat,by omega⟩;rw[show((z:Int)).toNat=z by omega,<-qCO]at hr;rcases hc with hb0|⟨b,o,rfl,hcell⟩
 ·omega
 obtain⟨u,c1,hu⟩:=hcell z (by omega);have KP:=hid (xR w _ u e (bs.getD z []) HE.out hu hle (hl2 z));obtain⟨a3,cap3,rfl,-⟩:=hu;have hlen:=xd (fun i=>decide (e.getD i 0∈bs.getD z [])) e.length;clear hcell HE;generalize (bs.getD z []).length=lz at *;generalize plc (fun i=>decide (e.getD i 0∈bs.getD z [])) e.length=pl at *;have HR:=hid hr;clear hr hl2;generalize e.length=n at *;generalize bs.length=nb at *;go_enter Tryz.func81,Tryz.ntmps81
 go_wp2_with fail
 refine KP.out.mono ?_;rintro r w1 ⟨v,rfl,hown,hbw⟩
 obtain⟨av,cv,rfl⟩:∃a c,v=.slice a pl.length c:=by
  rcases hown.2 with ⟨rfl,hn⟩|⟨g,cap,cur,rfl,_⟩
  ·exact⟨none,0,by rw[hn]⟩
  ·exact⟨_,cap,rfl⟩
 clear hown;generalize pl.length=m at *;go_wp2_with fail
 go_ret;refine⟨qG ?_,hbw⟩;rw[HR.out];by_cases hmn:m=n
 ·subst hmn;simp
 ·rw[decide_eq_false hmn];simp;omega
theorem Xa(w:World)(vh ve vb:Value)(hs:List Int)(es bs:List (List Int))(hh:IS w vh hs)(he:ISS w ve es)(hle:qQ es)(hb:ISS w vb bs)(hl:qQ bs):
 Cl 56 #[vh,ve,vb] w fun r w'=>r=.returned (.bool (vO hs es bs))/\Bl w w':=by
 have HBS:=hid hb;have HL:=hid hl;obtain⟨ab,capb,rfl,-⟩:=hb;obtain⟨ah,caph,rfl,hch⟩:=hh;obtain⟨a,cap,rfl,hc⟩:=he;obtain⟨hl1,hl2⟩:=hle;obtain⟨res,hres⟩:∃r,r=vO hs es bs:=⟨_,rfl⟩;rw[<-hres];have HR:=hid hres;have HC:=hid hc;have HCH:=hid hch;have HLE:=hid hl2;clear hc hch hl2 hres hl;by_cases hq:hs.length=es.length
 case neg=>
  have hf:res=false:=by rw[HR.out];unfold vO;rw[decide_eq_false hq];rfl
  subst hf;have i1:((hs.length:Int) != (es.length:Int))=true:=by simp;omega
  generalize hs.length=n1 at *;generalize es.length=n2 at *;go_enter Tryz.func56,Tryz.ntmps56
  go_wp2_with fail
  go_ret;exact⟨rfl,bI _ _⟩
 have HF:Hid (∀j,j < es.length->zV (hs.getD j 0) (es.getD j []) bs=false->res=false):=hid fun j hj e=>by
  rw[HR.out];unfold vO;rw[qZ hj e];simp
 have HT:Hid ((∀j,j < es.length->zV (hs.getD j 0) (es.getD j []) bs=true)->res=true):=hid fun h1=>by
  rw[HR.out];unfold vO;rw[decide_eq_true hq,qa h1];rfl
 clear HR;rw[hq]at HCH ⊢;obtain⟨n,hn⟩:∃n,n=es.length:=⟨_,rfl⟩;have d1:((n:Int) != (n:Int))=false:=by simp
 rw[<-hn]at HF HT hl1 HC HCH ⊢;clear hn hq;go_enter Tryz.func56,Tryz.ntmps56
 go_wp2_with fail
 go_loopw [16] (fun t wr=>∃j:Nat,j<=n/\t=.int .i64 j/\Bl w wr/\Hid (∀i,i < j->zV (hs.getD i 0) (es.getD i []) bs=true)) (fun t _=>n - (intOf t).toNat)
 case atStart=>exact⟨0,nZ _,rfl,bI _ _,hid (fun i hi=>by omega)⟩
 case round=>
  obtain⟨j,hj,rfl,hnx,hok⟩:=hrel;by_cases hjn:j < n
  ·have i1:(j:Int) < (n:Int):=by omega
   rcases HC.out with h0|⟨b,o,rfl,hcell⟩
   ·omega
   rcases HCH.out with h0|⟨b2,o2,rfl,hcell2⟩
   ·omega
   obtain⟨u,e1,hu⟩:=hcell j hjn;have c1:=qI hnx e1;have c2:=qI hnx (hcell2 j hjn);have KH:=hid (UJ wr u _ (hs.getD j 0) (es.getD j []) bs (hu.below hnx) (HLE.out j) (HBS.out.below hnx) HL.out);obtain⟨a1,cap1,rfl,-⟩:=hu;have fin:=HF.out j hjn
   have nxt:zV (hs.getD j 0) (es.getD j []) bs=true->Hid (∀i,i < j+1->zV (hs.getD i 0) (es.getD i []) bs=true):=fun e i hi=>by
    by_cases e2:i=j
    ·rw[e2];exact e
    ·exact hok.out i (by omega)
   clear hcell hcell2 hok e1;generalize (es.getD j []).length=m at *;generalize zV (hs.getD j 0) (es.getD j []) bs=y at *;generalize hs.getD j 0=x at *;cases y
   ·obtain rfl:=fin rfl;clear nxt;go_wp2_with fail
    refine KH.out.mono ?_;rintro e w1 ⟨rfl,hb1⟩;go_wp2_with fail
    go_ret;exact⟨rfl,bt hnx hb1⟩
   ·have hf:=nxt rfl;clear fin nxt;go_wp2_with fail
    refine KH.out.mono ?_;rintro e w1 ⟨rfl,hb1⟩;go_wp2_with fail
    go_roundw
    case rel=>exact⟨j+1,by omega,by go_num,bt hnx hb1,hf⟩
    case measure=>simp[intOf];omega
  ·obtain rfl:j=n:=by omega
   obtain rfl:=HT.out hok.out;have i1:¬((j:Int) < (j:Int)):=by omega
   clear hok;go_wp2_with fail
   go_ret;exact⟨rfl,hnx⟩
def gW:Nat->List (Nat->Rat)
 |0=>[fun _=>0]
 |u+1=>(gW u).flatMap fun f=>(List.range 5041).flatMap fun d=>(List.range 10081).map fun (z:Nat)=>fun j=>if j=u then mkRat (z-5040) d else f j
theorem gWm{x:Nat->Rat}:∀{u},(∀j,j<u->Sm 5040 (x j))->∃y∈gW u,∀j,j<u->y j=x j
 |0,_=>⟨_,.head _,fun j h=>by omega⟩
 |u+1,h=>by
  have⟨y,hy,e⟩:=gWm (u:=u) fun j k=>h j (by omega)
  have⟨h1,h2⟩:=h u (by omega)
  refine⟨_,List.mem_flatMap.2 ⟨y,hy,List.mem_flatMap.2 ⟨(x u).den,List.mem_range.2 (by omega),List.mem_map.2 ⟨((x u).num+5040).toNat,List.mem_range.2 (by omega),rfl⟩⟩⟩,fun j k=>?_⟩
  show(if j=u then mkRat _ _ else y j)=_
  split
  ·subst j;rw[show ((((x u).num+5040).toNat:Nat):Int)-5040=(x u).num by omega,Rat.mkRat_self]
  ·exact e j (by omega)
def wdR(es:List (List Int))(bag:List Int):Rat:=(((gW es.length).filter fun y=>decide ((∀i,i<es.length->0<=y i)/\∀r,r<bag.length->1<=Cov.sm es.length fun i=>inc (qM bag es) r i*y i)).map (Cov.sm es.length)).min?.getD 0
theorem UK{x:Nat->Rat}(h:zF bag.length es.length (inc (qM bag es)) x)(p:Parts es.length x):Cov.sm es.length x=wdR es bag:=by
 have⟨y,hy,e⟩:=gWm fun j k=>p.sm k
 refine(congrArg (Option.getD · 0) (List.min?_eq_some_iff.2 ⟨List.mem_map.2 ⟨y,List.mem_filter.2 ⟨hy,decide_eq_true ⟨fun i k=>e i k▸h.1.1 i k,fun r k=>?_⟩⟩,Cov.sm_congr e⟩,fun b k=>?_⟩)).symm
 ·obtain⟨z,hz,rfl⟩:=List.mem_map.1 k;have k:=of_decide_eq_true (List.mem_filter.1 hz).2;have:=h.2 z ⟨k.1,k.2⟩;unfold Cov.key Cov.Lex at this;grind
 ·rw[Cov.sm_congr fun i k=>congrArg (inc _ r i*·) (e i k)];exact h.1.2 r k
def qf(f:Nat->Rat):Nat->Rat
 |0=>0
 |n+1=>if qf f n < f n then f n else qf f n
theorem Q7{f:Nat->Rat}{B:Nat}(hB:1<=B):∀{n:Nat},(∀i,i < n->Sm B (f i))->Sm B (qf f n)
 |0,_=>⟨by show(0:Rat).num.natAbs<=B;simp,by show(0:Rat).den<=B;simpa using hB⟩
 |n+1,h=>by
  show Sm B (if qf f n < f n then f n else qf f n);split
  ·exact h n (by omega)
  ·exact Q7 hB (fun i hi=>h i (by omega))
theorem qDR(p q:Rat)(w:World)(hp:Sm 1000000 p)(hq:Sm 1000000 q)(h:q < p):
 Cl 99 #[.agg #[.int .i64 p.num,.int .i64 p.den],.agg #[.int .i64 q.num,.int .i64 q.den]] w fun e w'=>e=.returned (.int .i64 1)/\Bl w w':=
 (UZ _ _ _ _ w (uU hp) (uU hq)).mono (by
  rintro e w' ⟨rfl,hb⟩;have h1:=(Rat.lt_iff _ _).1 h;rw[RatM.sgn_gt _ (by omega)];exact⟨rfl,hb⟩)
theorem qDS(p q:Rat)(w:World)(hp:Sm 1000000 p)(hq:Sm 1000000 q)(h:¬q < p):
 Cl 99 #[.agg #[.int .i64 p.num,.int .i64 p.den],.agg #[.int .i64 q.num,.int .i64 q.den]] w fun e w'=>∃s:Int,e=.returned (.int .i64 s)/\¬(0 < s)/\Bl w w':=
 (UZ _ _ _ _ w (uU hp) (uU hq)).mono (by
  rintro e w' ⟨rfl,hb⟩;have h1:¬_:=fun h2=>h ((Rat.lt_iff _ _).2 h2);refine⟨_,rfl,?_,hb⟩;unfold RatM.sgn;split <;> (try split) <;> omega)
theorem Q8(w:World)(v:Value)(n:Nat)(f:Nat->Rat)(h:IR w v (prs n f))(hn:n<=1000)(hf:∀i,i < n->Sm 1000000 (f i)):
 Cl 83 #[v] w fun e w'=>e=.returned (.agg #[.int .i64 (qf f n).num,.int .i64 (qf f n).den])/\Bl w w':=by
 obtain⟨a,cap,rfl,hc⟩:=h;rw[qU]at hc ⊢
 have HC:Hid (n=0∨∃b o,a=some ⟨b,o,none⟩/\∀j,j < n->w.cell? ⟨b,o+j*2,none⟩=some (.int .i64 (f j).num)/\w.cell? ⟨b,o+j*2+1,none⟩=some (.int .i64 (f j).den)):=by
  rcases hc with h0|⟨b,o,e,hcell⟩
  ·exact Or.inl h0
  ·refine Or.inr ⟨b,o,e,fun j hj=>?_⟩;have:=hcell j hj;rw[x9 hj]at this;exact this
 have HF:=hid hf;have HM:Hid (∀k,k<=n->Sm 1000000 (qf f k)):=hid fun k hk=>Q7 (by omega) (fun i hi=>hf i (by omega));have HS1:Hid (∀k,qf f k < f k->qf f (k+1)=f k):=hid fun k hk=>by show(if _ then _ else _)=_;rw[if_pos hk]
 have HS2:Hid (∀k,¬qf f k < f k->qf f (k+1)=qf f k):=hid fun k hk=>by show(if _ then _ else _)=_;rw[if_neg hk]
 have H0:Hid (qf f 0=0):=hid rfl;clear hc hf;generalize qf f=MN at *;go_enter Tryz.func83,Tryz.ntmps83
 go_wp2;have hbb:Bl w ((w.alloc (.cells #[.int .i64 0,.int .i64 0] 37)).alloc (.cells #[.int .i64 0,.int .i64 1] 37)):=((bI _ _).alloc (nR _) _).alloc (by simp) _
 have t1:Two ((w.alloc (.cells #[.int .i64 0,.int .i64 0] 37)).alloc (.cells #[.int .i64 0,.int .i64 1] 37)) w.heap.size 0 0:=
  ⟨by rw[World.cell?_alloc_past _ _ _ (by simp),cA _ _ _ _ rfl];rfl,by rw[World.cell?_alloc_past _ _ _ (by simp),cA _ _ _ _ rfl];rfl,by rw[World.frozen?_alloc_past _ _ _ (by simp),World.frozen?_alloc_at _ _ _ _ rfl],by rw[World.frozen?_alloc_past _ _ _ (by simp),World.frozen?_alloc_at _ _ _ _ rfl]⟩
 have t2:Two ((w.alloc (.cells #[.int .i64 0,.int .i64 0] 37)).alloc (.cells #[.int .i64 0,.int .i64 1] 37)) (w.heap.size+1) 0 1:=
  ⟨by rw[cA _ _ _ _ (by simp)];rfl,by rw[cA _ _ _ _ (by simp)];rfl,World.frozen?_alloc_at _ _ _ _ (by simp),World.frozen?_alloc_at _ _ _ _ (by simp)⟩
 have T1:=hid t1;have T2:=hid t2;have HBB:=hid hbb;clear t1 t2 hbb;go_loopw [9] (fun t wr=>∃k:Nat,k<=n/\t=.int .i64 k/\w.heap.size+1 < wr.heap.size/\Hid (Bl w wr/\Two wr w.heap.size 0 0/\Two wr (w.heap.size+1) (MN k).num (MN k).den)) (fun t _=>n - (intOf t).toNat)
 case atStart=>exact⟨0,nZ _,rfl,by simp,hid ⟨HBB.out,T1.out,by rw[H0.out];exact T2.out⟩⟩
 case round=>
  clear T1 T2 HBB;obtain⟨k,hk,rfl,hsz,hH⟩:=hrel;by_cases hkn:k < n
  ·have i1:(k:Int) < (n:Int):=by omega
   rcases HC.out with h0|⟨b,o,rfl,hcell⟩
   ·omega
   ·obtain⟨hnx,hT1,hT2⟩:=hH.out;obtain⟨d1,d2⟩:=hcell k hkn;have c1:=(hnx.cell (p:=⟨b,o+k*2,none⟩) (bL w _ d1)).trans d1;have c2:=(hnx.cell (p:=⟨b,o+k*2+1,none⟩) (bL w _ d2)).trans d2;have c3:=hT2.1;have c4:=hT2.2.1;have HH:=hid (And.intro hnx (And.intro hT1 hT2));have HBA:Hid (∀ob,Bl wr (wr.alloc ob)):=hid fun ob=>(bI _ _).alloc (nR _) ob;have HFK:=hid (HF.out k hkn);have HMK:=hid (HM.out k hk);have hs1:=HS1.out k;have hs2:=HS2.out k;clear hcell d1 d2 hnx hT1 hT2 hH;have z1:∀x y:Value,(wr.alloc (.cells #[x,y] 37)).cell? ⟨wr.heap.size,0,none⟩=some x:=fun x y=>by rw[cA _ _ _ _ rfl];rfl
    have z2:∀x y:Value,(wr.alloc (.cells #[x,y] 37)).cell? ⟨wr.heap.size,1,none⟩=some y:=fun x y=>by rw[cA _ _ _ _ rfl];rfl
    have Z1:=hid z1;have Z2:=hid z2;clear z1 z2;by_cases hlt:MN k < f k
    ·have HE:=hid (hs1 hlt);have HK:Hid (∀w,_):=hid (fun w=>qDR (f k) (MN k) w HFK.out HMK.out hlt);clear hs1 hs2 hlt;generalize hx:(f k).num=x at *;generalize hy:((f k).den:Int)=y at *;have HX:=hid hx;have HY:=hid hy;clear hx hy;generalize (MN k).num=x0 at *;generalize ((MN k).den:Int)=y0 at *;go_wp2_with fail
     refine(HK.out _).mono ?_;rintro e w2 ⟨rfl,hb2⟩;have hb3:=bt (HBA.out _) hb2;have q1:=HH.out.2.1.below (by omega) hb3;have q2:=HH.out.2.2.below (by omega) hb3;have q3:=bt HH.out.1 hb3;have q4:=hb3.size;have f1:=qI hb2 (Z1.out _ _);have f2:=qI hb2 (Z2.out _ _);have e1:=q2.1;have e2:=q2.2.1;have e3:=q2.2.2.1;have e4:=q2.2.2.2;have HQ:=hid (And.intro q1 (And.intro q2 q3));clear hb2 hb3 q1 q2 q3 Z1 Z2;go_wp2_with fail
     go_roundw
     case rel=>exact⟨k+1,by omega,by go_num,by simp[World.setCell];omega,hid ⟨(HQ.out.2.2.setCell (by show w.heap.size<=w.heap.size+1;omega) _).setCell (by show w.heap.size<=w.heap.size+1;omega) _,HQ.out.1.other (by omega) _ _,by rw[HE.out,HX.out,HY.out];exact HQ.out.2.1.set _ _⟩⟩
     case measure=>simp[intOf];omega
    ·have HE:=hid (hs2 hlt);have HK:Hid (∀w,_):=hid (fun w=>qDS (f k) (MN k) w HFK.out HMK.out hlt);clear hs1 hs2 hlt;generalize (f k).num=x at *;generalize ((f k).den:Int)=y at *;generalize hx:(MN k).num=x0 at *;generalize hy:((MN k).den:Int)=y0 at *;have HX:=hid hx;have HY:=hid hy;clear hx hy;go_wp2_with fail
     refine(HK.out _).mono ?_;rintro e w2 ⟨s,rfl,hs,hb2⟩;have hb3:=bt (HBA.out _) hb2;have q1:=HH.out.2.1.below (by omega) hb3;have q2:=HH.out.2.2.below (by omega) hb3;have q3:=bt HH.out.1 hb3;have q4:=hb3.size;have HQ:=hid (And.intro q1 (And.intro q2 q3));clear hb2 hb3 q1 q2 q3 Z1 Z2;go_wp2_with fail
     go_roundw
     case rel=>exact⟨k+1,by omega,by go_num,by omega,hid ⟨HQ.out.2.2,HQ.out.1,by rw[HE.out,HX.out,HY.out];exact HQ.out.2.1⟩⟩
     case measure=>simp[intOf];omega
  ·obtain rfl:k=n:=by omega
   have i1:¬((k:Int) < (k:Int)):=by omega
   obtain⟨hnx,hT1,hT2⟩:=hH.out;have c1:=hT1.1;have c2:=hT1.2.1;have c3:=hT1.2.2.1;have c4:=hT1.2.2.2;have e1:=hT2.1;have e2:=hT2.2.1;obtain⟨x,hx⟩:∃t,t=(MN k).num:=⟨_,rfl⟩;obtain⟨y,hy⟩:∃t:Int,t=(MN k).den:=⟨_,rfl⟩;rw[<-hx]at e1;rw[<-hy]at e2;have HX:=hid hx;have HY:=hid hy;have HQ:=hid (And.intro hnx (hT1.set x y));clear hH hT1 hT2 hx hy hnx;go_wp2;have r1:=HQ.out.2.1;have r2:=HQ.out.2.2.1;refine bodyPost_ret (v:=.agg #[.int .i64 x,.int .i64 y]) (by simp[results,Tryz.results83,go_sem,r1,r2]) rfl ⟨by rw[HX.out,HY.out],(HQ.out.1.setCell (nR _) _).setCell (nR _) _⟩
def rp(q:Rat):Int×Int:=(q.num,(q.den:Int))
def xH(es bs:List (List Int))(ws:List (Int×Int))(i:Nat):Bool:=decide (ws.getD i (0,0)=rp (wdR es (bs.getD i [])))
def ki(es bs:List (List Int))(ws:List (Int×Int))(x:Int×Int):Bool:=
 decide (ws.length=bs.length)&&(List.range bs.length).all (xH es bs ws)&&decide (x=rp (qf (fun i=>wdR es (bs.getD i [])) bs.length))
structure GoodBag(es:List (List Int))(bag:List Int):Prop where
 set:qP bag=true
 cov:xc bag es=true
theorem UL(h:qP l=true):l.Nodup:=by
 have key:∀j,j < l.length->∀i,i < j->l.getD i 0 < l.getD j 0:=by
  intro j;induction j with
  |zero=>intro _ i hi;omega
  |succ j ih=>
   intro hj i hi;have h1:=(yu h hj).2.2;rw[show j+1 - 1=j by omega]at h1;by_cases e:i=j
   ·subst e;omega
   ·have:=ih (by omega) i (by omega);omega
 unfold List.Nodup;rw[List.pairwise_iff_getElem];intro i j hi hj hij;have:=key j hj i hij;rw[gD,gD,gE hj,gE hi]at this;simp only[Option.getD_some]at this;omega
theorem JF(h:zL es=true):∀i,i < es.length->(es.getD i []).Nodup:=by
 intro i hi;unfold zL at h;rw[bA,aT]at h;refine UL (h.2 _ ?_);rw[gD,gE hi];exact gM hi
theorem YG(h:xc bag es=true):∀r,r < bag.length->∃e,e < es.length/\bag.getD r 0∈es.getD e []:=by
 intro r hr;unfold xc at h;rw[aT]at h;have:=h _ (yC hr);rw[List.any_eq_true]at this;obtain⟨e,he,hm⟩:=this;obtain⟨j,hj,e1⟩:=gO he;exact⟨j,hj,by rw[gD (l:=es),gE hj,Option.getD_some,e1];simpa using hm⟩
theorem GoodBag.best(h:GoodBag es bag):∃x,zF bag.length es.length (inc (qM bag es)) x/\Parts es.length x:=
 uN (by have:=jU h.set;omega) (YG h.cov)
theorem GoodBag.sm(h:GoodBag es bag)(he:zL es=true):Sm 36000 (wdR es bag):=by
 obtain⟨x,hx,hp⟩:=h.best;rw[<-UK hx hp];exact hp.sum (nR _) (yW he)
theorem qEZ{q:Rat}(h:Sm 36000 q):Sm 1000000 q:=⟨by have:=h.1;omega,by have:=h.2;omega⟩
theorem qAD(w:World)(vb ve:Value)(bag:List Int)(es:List (List Int))(hb:IS w vb bag)(h:ISS w ve es)(hl:qQ es)(he:zL es=true)(hg:GoodBag es bag):
 Cl 82 #[vb,ve] w fun e w'=>∃vW vD,e=.returned (.agg #[.bool true,.int .i64 (wdR es bag).num,.int .i64 (wdR es bag).den,vW,vD])/\Bl w w':=by
 have:=jU hg.set;refine(U8 w vb ve bag es hb h (by omega) hl hg.set he hg.cov).mono ?_;rintro e w' ⟨x,y,vW,vD,rfl,hx,-,px,-,-,-,-,hbw⟩;rw[UK hx px];exact⟨vW,vD,rfl,hbw⟩
theorem qEO{w:World}{v:Value}{ws:List (Int×Int)}(h:IR w v ws)(hn:ws.length=n)(hf:∀i,i < n->ws.getD i (0,0)=rp (f i)):IR w v (prs n f):=by
 have e:ws=prs n f:=by
  apply List.ext_getElem
  ·rw[qU,hn]
  ·intro i h1 h2;have:=hf i (by omega);rw[gD,gE h1,Option.getD_some]at this;rw[this];have h3:=x9 (x:=f) (show i < n by omega);rw[gD,gE h2,Option.getD_some]at h3;rw[h3];rfl
 rw[<-e];exact h
theorem Tryz.fieldC1(b c d e f:Value)(w:World):Sem.run Tryz.prog (Instr.field 104 (.agg #[b,c,d,e,f]) 1) w=.ok (.agg #[c,d]) w:=by kernel_rfl
theorem qEP{wr W:World}{sl:Value}{b o:Nat}{y:Int}(c3:wr.cell? ⟨B,3,none⟩=some sl)(d1:wr.cell? ⟨b,o,none⟩=some (.int .i64 x))(d2:wr.cell? ⟨b,o+1,none⟩=some (.int .i64 y))(hb:Bl wr W):
 W.cell? ⟨B,3,none⟩=some sl/\W.cell? ⟨b,o,none⟩=some (.int .i64 x)/\W.cell? ⟨b,o+1,none⟩=some (.int .i64 y)/\Bl wr W:=
 ⟨qI hb c3,qI hb d1,qI hb d2,hb⟩
theorem Zr(w:World)(vb vp vh vw ve:Value)(n d:Int)(bs es:List (List Int))(ws:List (Int×Int))(hb:ISS w vb bs)(hl:qQ bs)(hl12:bs.length<=12)(hwv:IR w vw ws)
 (he:ISS w ve es) (hle:qQ es) (hee:zL es=true) (hg:∀i,i < bs.length->GoodBag es (bs.getD i [])):
 Cl 57 #[.agg #[vb,vp,vh,vw,.int .i64 n,.int .i64 d],ve] w fun e w'=>e=.returned (.bool (ki es bs ws (n,d)))/\Bl w w':=by
 have HB0:Hid (Bl w (w.alloc (.cells #[vb,vp,vh,vw,.int .i64 n,.int .i64 d] 39))):=hid ((bI _ _).alloc (nR _) _);have c0:(w.alloc (.cells #[vb,vp,vh,vw,.int .i64 n,.int .i64 d] 39)).cell? ⟨w.heap.size,0,none⟩=some vb:=by rw[cA _ _ _ _ rfl];rfl
 have c3:(w.alloc (.cells #[vb,vp,vh,vw,.int .i64 n,.int .i64 d] 39)).cell? ⟨w.heap.size,3,none⟩=some vw:=by rw[cA _ _ _ _ rfl];rfl
 have c4:(w.alloc (.cells #[vb,vp,vh,vw,.int .i64 n,.int .i64 d] 39)).cell? ⟨w.heap.size,4,none⟩=some (.int .i64 n):=by rw[cA _ _ _ _ rfl];rfl
 have c5:(w.alloc (.cells #[vb,vp,vh,vw,.int .i64 n,.int .i64 d] 39)).cell? ⟨w.heap.size,5,none⟩=some (.int .i64 d):=by rw[cA _ _ _ _ rfl];rfl
 obtain⟨W,hW⟩:∃W,W=w.alloc (.cells #[vb,vp,vh,vw,.int .i64 n,.int .i64 d] 39):=⟨_,rfl⟩;rw[<-hW]at HB0 c0 c3 c4 c5;have HE:=hid (he.below HB0.out);have HWW:=hid (hwv.below HB0.out);have HBS:=hid (hb.below HB0.out);obtain⟨ae,cape,rfl,-⟩:=he;clear hb hwv;have hbs:=HBS.out;have hww:=HWW.out;obtain⟨a,cap,rfl,hc⟩:=hbs;obtain⟨a4,cap4,rfl,hcw⟩:=hww;obtain⟨res,hres⟩:∃r,r=ki es bs ws (n,d):=⟨_,rfl⟩;rw[<-hres];have HR:=hid hres;have HC:=hid hc;have HCW:=hid hcw;have HL:=hid hl;have HLE:=hid hle;have HG:=hid hg;clear hc hcw hl hle hres hg;by_cases hq:ws.length=bs.length
 case neg=>
  have hf:res=false:=by rw[HR.out];unfold ki;rw[decide_eq_false hq];simp
  subst hf;have i1:((ws.length:Int) != (bs.length:Int))=true:=by simp;omega
  clear HC HCW HBS HWW HR;generalize ws.length=n1 at *;generalize bs.length=n2 at *;go_enter Tryz.func57,Tryz.ntmps57
  go_upto_region 1 with fail
  rw[<-hW];clear hW;go_wp2_with fail
  go_ret;exact⟨rfl,HB0.out⟩
 have HF:Hid (∀j,j < bs.length->xH es bs ws j=false->res=false):=hid fun j hj e=>by
  rw[HR.out];unfold ki;rw[qZ hj e];simp
 have HT:Hid ((∀j,j < bs.length->xH es bs ws j=true)->res=decide ((n,d)=rp (qf (fun i=>wdR es (bs.getD i [])) bs.length))):=hid fun h1=>by
  rw[HR.out];unfold ki;rw[decide_eq_true hq,qa h1];rfl
 have HGR:Hid (∀wr,Bl W wr->(∀j,j < bs.length->xH es bs ws j=true)->Cl 83 #[.slice a4 ws.length cap4] wr fun e w'=>e=.returned (.agg #[.int .i64 (qf (fun i=>wdR es (bs.getD i [])) bs.length).num,.int .i64 (qf (fun i=>wdR es (bs.getD i [])) bs.length).den])/\Bl wr w'):=hid fun wr hb h1=>
  Q8 wr _ bs.length _ (qEO (HWW.out.below hb) hq (fun i hi=>of_decide_eq_true (h1 i hi))) (by omega) (fun i hi=>qEZ ((HG.out i hi).sm hee))
 clear HR HWW HBS;rw[hq]at HCW HGR c3 hW ⊢;obtain⟨m,hm⟩:∃m,m=bs.length:=⟨_,rfl⟩;have d1:((m:Int) != (m:Int))=false:=by simp
 rw[<-hm]at HF HT HC HCW HGR HG hl12 c0 c3 hW ⊢;clear hm hq;generalize qf (fun i=>wdR es (bs.getD i [])) m=MX at *;have HWL:Hid (∀j,xH es bs ws j=decide (ws.getD j (0,0)=rp (wdR es (bs.getD j [])))):=hid fun _=>rfl;go_enter Tryz.func57,Tryz.ntmps57
 go_upto_region 1 with fail
 rw[<-hW];clear hW;go_wp2_with fail
 go_loopw [17] (fun t wr=>∃j:Nat,j<=m/\t=.int .i64 j/\Bl W wr/\Hid (∀i,i < j->xH es bs ws i=true)) (fun t _=>m - (intOf t).toNat)
 case atStart=>exact⟨0,nZ _,rfl,bI _ _,hid (fun i hi=>by omega)⟩
 case round=>
  obtain⟨j,hj,rfl,hnx,hok⟩:=hrel;by_cases hjn:j < m
  ·have i1:(j:Int) < (m:Int):=by omega
   rcases HC.out with h0|⟨b,o,rfl,hcell⟩
   ·omega
   rcases HCW.out with h0|⟨b2,o2,rfl,hcell2⟩
   ·omega
   obtain⟨u,e1,hu⟩:=hcell j hjn;have k1:=qI hnx e1;obtain⟨w1,w2⟩:=hcell2 j hjn;have k2:=qI hnx w1;have k3:=qI hnx w2;have x3:=qI hnx c3;have HS:Hid (∀W',Bl wr W'->_):=hid fun W' hb=>qEP x3 k2 k3 hb
   have KW:Hid (∀W',Bl wr W'->Cl 82 #[u,.slice ae es.length cape] W' fun e w'=>∃vW vD,e=.returned (.agg #[.bool true,.int .i64 (wdR es (bs.getD j [])).num,.int .i64 (wdR es (bs.getD j [])).den,vW,vD])/\Bl W' w'):=hid fun W' hb=>
    qAD W' _ _ _ es (hu.below (bt hnx hb)) (HE.out.below (bt hnx hb)) HLE.out hee (HG.out j hjn)
   have hwl:=HWL.out j;obtain⟨a1,cap1,rfl,-⟩:=hu;have fin:=HF.out j hjn
   have nxt:xH es bs ws j=true->Hid (∀i,i < j+1->xH es bs ws i=true):=fun e i hi=>by
    by_cases e2:i=j
    ·rw[e2];exact e
    ·exact hok.out i (by omega)
   clear hcell hcell2 hok e1 w1 w2;generalize (bs.getD j []).length=lj at *;generalize xH es bs ws j=y at *;generalize wdR es (bs.getD j [])=q at *;unfold rp at hwl;generalize hp:ws.getD j (0,0)=p at *;obtain⟨p1,p2⟩:=p;clear hp;simp only at k2 k3 HS;have HQ:=hid hwl;clear hwl;generalize q.num=qn at *;generalize (q.den:Int)=qd at *;have HSW:Hid (∀W',(W'.cell? ⟨w.heap.size,3,none⟩=some (.slice (some ⟨b2,o2,none⟩) m cap4)/\W'.cell? ⟨b2,o2+j*2,none⟩=some (.int .i64 p1)/\W'.cell? ⟨b2,o2+j*2+1,none⟩=some (.int .i64 p2)/\Bl wr W')->Bl wr W'):=hid fun W' h=>h.2.2.2;have KX:Hid (∀W',(W'.cell? ⟨w.heap.size,3,none⟩=some (.slice (some ⟨b2,o2,none⟩) m cap4)/\W'.cell? ⟨b2,o2+j*2,none⟩=some (.int .i64 p1)/\W'.cell? ⟨b2,o2+j*2+1,none⟩=some (.int .i64 p2)/\Bl wr W')->_):=hid fun W' h=>KW.out W' h.2.2.2;clear KW;have hq:=HQ.out;clear HQ;by_cases e1:p1=qn
   ·subst e1;by_cases e2:p2=qd
    ·subst e2;have hf:=nxt (by rw[hq];simp);clear fin nxt hq;have hfld:=Tryz.fieldC1;go_wp2_with fail
     go_region_held3 (fun W'=>W'.cell? ⟨w.heap.size,3,none⟩=some (.slice (some ⟨b2,o2,none⟩) m cap4)/\W'.cell? ⟨b2,o2+j*2,none⟩=some (.int .i64 p1)/\W'.cell? ⟨b2,o2+j*2+1,none⟩=some (.int .i64 p2)/\Bl wr W')
      (first|exact HS.out _ (bI _ _).drew|exact HS.out _ (bt (bI _ _).drew hbw)|(refine HS.out _ (bt (HSW.out _ ?_) hbw);assumption))
      (first|(go_at_call 82;refine(KX.out _ ?_).mono ?_;assumption;rintro e w' ⟨vW,vD,rfl,hbw⟩))
     clear hfld;go_wp2_with fail
     go_roundw
     case rel=>
      refine⟨j+1,by omega,by go_num,bt hnx (HSW.out _ ?_),hf⟩;assumption
     case measure=>simp[intOf];omega
    ·obtain rfl:=fin (by rw[hq];simp[e2]);have x1:(p2 == qd)=false:=by simpa using e2
     clear nxt hq;have hfld:=Tryz.fieldC1;go_wp2_with fail
     go_region_held3 (fun W'=>W'.cell? ⟨w.heap.size,3,none⟩=some (.slice (some ⟨b2,o2,none⟩) m cap4)/\W'.cell? ⟨b2,o2+j*2,none⟩=some (.int .i64 p1)/\W'.cell? ⟨b2,o2+j*2+1,none⟩=some (.int .i64 p2)/\Bl wr W')
      (first|exact HS.out _ (bI _ _).drew|exact HS.out _ (bt (bI _ _).drew hbw)|(refine HS.out _ (bt (HSW.out _ ?_) hbw);assumption))
      (first|(go_at_call 82;refine(KX.out _ ?_).mono ?_;assumption;rintro e w' ⟨vW,vD,rfl,hbw⟩))
     clear hfld;go_wp2_with fail
     go_ret;refine⟨rfl,bt HB0.out (bt hnx (HSW.out _ ?_))⟩;assumption
   ·obtain rfl:=fin (by rw[hq];simp[e1]);have x1:(p1 == qn)=false:=by simpa using e1
    clear nxt hq;have hfld:=Tryz.fieldC1;go_wp2_with fail
    go_region_held3 (fun W'=>W'.cell? ⟨w.heap.size,3,none⟩=some (.slice (some ⟨b2,o2,none⟩) m cap4)/\W'.cell? ⟨b2,o2+j*2,none⟩=some (.int .i64 p1)/\W'.cell? ⟨b2,o2+j*2+1,none⟩=some (.int .i64 p2)/\Bl wr W')
     (first|exact HS.out _ (bI _ _).drew|exact HS.out _ (bt (bI _ _).drew hbw)|(refine HS.out _ (bt (HSW.out _ ?_) hbw);assumption))
     (first|(go_at_call 82;refine(KX.out _ ?_).mono ?_;assumption;rintro e w' ⟨vW,vD,rfl,hbw⟩))
    clear hfld;go_wp2_with fail
    go_ret;refine⟨rfl,bt HB0.out (bt hnx (HSW.out _ ?_))⟩;assumption
  ·obtain rfl:j=m:=by omega
   have i1:¬((j:Int) < (j:Int)):=by omega
   have hr:=HT.out hok.out;have x3:=qI hnx c3;have x4:=qI hnx c4;have x5:=qI hnx c5;have HS:Hid (∀W',Bl wr W'->W'.cell? ⟨w.heap.size,3,none⟩=some (.slice a4 j cap4)/\W'.cell? ⟨w.heap.size,4,none⟩=some (.int .i64 n)/\W'.cell? ⟨w.heap.size,4+1,none⟩=some (.int .i64 d)/\Bl wr W'):=hid fun W' hb=>⟨qI hb x3,qI hb x4,qI hb x5,hb⟩;have HSW:Hid (∀W',(W'.cell? ⟨w.heap.size,3,none⟩=some (.slice a4 j cap4)/\W'.cell? ⟨w.heap.size,4,none⟩=some (.int .i64 n)/\W'.cell? ⟨w.heap.size,4+1,none⟩=some (.int .i64 d)/\Bl wr W')->Bl wr W'):=hid fun W' h=>h.2.2.2;have KX:Hid (∀W',(W'.cell? ⟨w.heap.size,3,none⟩=some (.slice a4 j cap4)/\W'.cell? ⟨w.heap.size,4,none⟩=some (.int .i64 n)/\W'.cell? ⟨w.heap.size,4+1,none⟩=some (.int .i64 d)/\Bl wr W')->_):=hid fun W' h=>HGR.out W' (bt hnx h.2.2.2) hok.out;clear HGR HT HF hok;unfold rp at hr;generalize MX.num=qn at *;generalize (MX.den:Int)=qd at *;by_cases e1:n=qn
   ·subst e1;by_cases e2:d=qd
    ·subst e2;obtain rfl:res=true:=by rw[hr];simp
     clear hr;go_wp2_with fail
     go_region_held3 (fun W'=>W'.cell? ⟨w.heap.size,3,none⟩=some (.slice a4 j cap4)/\W'.cell? ⟨w.heap.size,4,none⟩=some (.int .i64 n)/\W'.cell? ⟨w.heap.size,4+1,none⟩=some (.int .i64 d)/\Bl wr W')
      (first|exact HS.out _ (bI _ _).drew|exact HS.out _ (bt (bI _ _).drew hbw)|(refine HS.out _ (bt (HSW.out _ ?_) hbw);assumption))
      (first|(go_at_call 83;refine(KX.out _ ?_).mono ?_;assumption;rintro e w' ⟨rfl,hbw⟩))
     go_wp2_with fail
     go_ret;refine⟨rfl,bt HB0.out (bt hnx (HSW.out _ ?_))⟩;assumption
    ·obtain rfl:res=false:=by rw[hr];simp[e2]
     have x1:(d == qd)=false:=by simpa using e2
     clear hr;go_wp2_with fail
     go_region_held3 (fun W'=>W'.cell? ⟨w.heap.size,3,none⟩=some (.slice a4 j cap4)/\W'.cell? ⟨w.heap.size,4,none⟩=some (.int .i64 n)/\W'.cell? ⟨w.heap.size,4+1,none⟩=some (.int .i64 d)/\Bl wr W')
      (first|exact HS.out _ (bI _ _).drew|exact HS.out _ (bt (bI _ _).drew hbw)|(refine HS.out _ (bt (HSW.out _ ?_) hbw);assumption))
      (first|(go_at_call 83;refine(KX.out _ ?_).mono ?_;assumption;rintro e w' ⟨rfl,hbw⟩))
     go_wp2_with fail
     go_ret;refine⟨rfl,bt HB0.out (bt hnx (HSW.out _ ?_))⟩;assumption
   ·obtain rfl:res=false:=by rw[hr];simp[e1]
    have x1:(n == qn)=false:=by simpa using e1
    clear hr;go_wp2_with fail
    go_region_held3 (fun W'=>W'.cell? ⟨w.heap.size,3,none⟩=some (.slice a4 j cap4)/\W'.cell? ⟨w.heap.size,4,none⟩=some (.int .i64 n)/\W'.cell? ⟨w.heap.size,4+1,none⟩=some (.int .i64 d)/\Bl wr W')
     (first|exact HS.out _ (bI _ _).drew|exact HS.out _ (bt (bI _ _).drew hbw)|(refine HS.out _ (bt (HSW.out _ ?_) hbw);assumption))
     (first|(go_at_call 83;refine(KX.out _ ?_).mono ?_;assumption;rintro e w' ⟨rfl,hbw⟩))
    go_wp2_with fail
    go_ret;refine⟨rfl,bt HB0.out (bt hnx (HSW.out _ ?_))⟩;assumption
def zo(k:Int)(es bs:List (List Int))(ps hs:List Int)(ws:List (Int×Int))(x:Int×Int):Bool:=
 zb k es&&ye k bs&&vG ps bs.length&&uy k bs ps&&vO hs es bs&&ki es bs ws x
theorem qCP(h:qP l=true):∀j,j < l.length->∀i,i<=j->l.getD i 0<=l.getD j 0:=by
 intro j;induction j with
 |zero=>intro _ i hi;rw[show i=0 by omega];exact Int.le_refl _
 |succ j ih=>
  intro hj i hi;have h1:=(yu h hj).2.2;rw[show j+1 - 1=j by omega]at h1;by_cases e:i=j+1
  ·subst e;exact Int.le_refl _
  ·have:=ih (by omega) i (by omega);omega
theorem J0(h:qP l=true)(hk:zR k l=true)(hx:x∈l):0<=x/\x < k:=by
 obtain⟨i,hi,rfl⟩:=xu hx;refine⟨(yu h hi).1,?_⟩;unfold zR at hk;rw[Bool.or_eq_true,dE,dE]at hk;have:=qCP h (l.length - 1) (by omega) i (by omega);omega
theorem Xb(hp:zb k es=true)(h1:qP bag=true)(h2:zR k bag=true):GoodBag es bag:=by
 refine⟨h1,?_⟩;unfold xc;rw[aT];intro x hx;obtain⟨h3,h4⟩:=J0 h1 h2 hx;unfold zb at hp;rw[bA,aT]at hp;have:=hp.2 x.toNat (by simp;omega);unfold zN at this;rw[show((x.toNat:Nat):Int)=x by omega]at this;exact this
theorem ui(hp:zb k es=true):0<=k/\k<=6/\zL es=true:=by
 unfold zb at hp;rw[bA,bA,bA,bA,dE,dE]at hp;exact⟨hp.1.1.1.1,hp.1.1.1.2,hp.1.1.2⟩
theorem qBH{bs:List (List Int)}(hp:zb k es=true)(hb:ye k bs=true):bs.length<=12/\∀i,i < bs.length->GoodBag es (bs.getD i []):=by
 unfold ye at hb;rw[bA,dE,aT]at hb;refine⟨hb.1,fun i hi=>?_⟩;have:=hb.2 (bs.getD i []) (by rw[gD,gE hi];exact gM hi);unfold zj at this;rw[bA,bA]at this;exact Xb hp this.1.2 this.2
theorem UM(w:World)(vb vp vh vw ve:Value)(k n d:Int)(es bs:List (List Int))(ps hs:List Int)(ws:List (Int×Int))(he:ISS w ve es)(hle:qQ es)(hb:ISS w vb bs)(hl:qQ bs)
 (hp:IS w vp ps) (hpl:ps.length<=1099511627776) (hh:IS w vh hs) (hwv:IR w vw ws):
 Cl 30 #[.int .i64 k,ve,.agg #[vb,vp,vh,vw,.int .i64 n,.int .i64 d]] w fun e w'=>e=.returned (.bool (zo k es bs ps hs ws (n,d)))/\Bl w w':=by
 have HB0:Hid (Bl w (w.alloc (.cells #[vb,vp,vh,vw,.int .i64 n,.int .i64 d] 39))):=hid ((bI _ _).alloc (nR _) _);have c0:(w.alloc (.cells #[vb,vp,vh,vw,.int .i64 n,.int .i64 d] 39)).cell? ⟨w.heap.size,0,none⟩=some vb:=by rw[cA _ _ _ _ rfl];rfl
 have c1:(w.alloc (.cells #[vb,vp,vh,vw,.int .i64 n,.int .i64 d] 39)).cell? ⟨w.heap.size,1,none⟩=some vp:=by rw[cA _ _ _ _ rfl];rfl
 have c2:(w.alloc (.cells #[vb,vp,vh,vw,.int .i64 n,.int .i64 d] 39)).cell? ⟨w.heap.size,2,none⟩=some vh:=by rw[cA _ _ _ _ rfl];rfl
 have c3:(w.alloc (.cells #[vb,vp,vh,vw,.int .i64 n,.int .i64 d] 39)).cell? ⟨w.heap.size,3,none⟩=some vw:=by rw[cA _ _ _ _ rfl];rfl
 have c4:(w.alloc (.cells #[vb,vp,vh,vw,.int .i64 n,.int .i64 d] 39)).cell? ⟨w.heap.size,4,none⟩=some (.int .i64 n):=by rw[cA _ _ _ _ rfl];rfl
 have c5:(w.alloc (.cells #[vb,vp,vh,vw,.int .i64 n,.int .i64 d] 39)).cell? ⟨w.heap.size,5,none⟩=some (.int .i64 d):=by rw[cA _ _ _ _ rfl];rfl
 obtain⟨W,hW⟩:∃W,W=w.alloc (.cells #[vb,vp,vh,vw,.int .i64 n,.int .i64 d] 39):=⟨_,rfl⟩;rw[<-hW]at HB0 c0 c1 c2 c3 c4 c5;have HE:=hid (he.below HB0.out);have HBS:=hid (hb.below HB0.out);have HP:=hid (hp.below HB0.out);have HH:=hid (hh.below HB0.out);have HWV:=hid (hwv.below HB0.out);have HL:=hid hl;have HLE:=hid hle;obtain⟨ae,cape,rfl,-⟩:=he;obtain⟨ab,capb,rfl,-⟩:=hb;obtain⟨ap,capp,rfl,-⟩:=hp;obtain⟨ah,caph,rfl,-⟩:=hh;obtain⟨aw,capw,rfl,-⟩:=hwv;obtain⟨res,hres⟩:∃r,r=zo k es bs ps hs ws (n,d):=⟨_,rfl⟩;rw[<-hres];have HR:Hid (res=_):=hid hres;clear hl hle hres;have K1:=hid (Zq W _ k es HE.out HLE.out);go_enter Tryz.func30,Tryz.ntmps30
 go_upto_region 1 with fail
 rw[<-hW];clear hW;go_wp2_with fail
 refine K1.out.mono ?_;rintro e w1 ⟨rfl,hb1⟩;have HB1:=hid hb1;clear K1 hb1;cases hpat:zb k es
 ·obtain rfl:res=false:=by rw[HR.out];unfold zo;rw[hpat];simp
  go_wp2_with fail
  go_ret;exact⟨rfl,bt HB0.out HB1.out⟩
 obtain⟨hk0,hk6,hee⟩:=ui hpat;have K2:=hid (Yj w1 _ k bs (HBS.out.below HB1.out) HL.out);have x0:=qI HB1.out c0;have x1:=qI HB1.out c1;have HPAT:=hid hpat;clear hpat;go_wp2_with fail
 refine K2.out.mono ?_;rintro e w2 ⟨rfl,hw2⟩;subst w2;clear K2;cases hbag:ye k bs
 ·obtain rfl:res=false:=by rw[HR.out];unfold zo;rw[hbag];simp
  go_wp2_with fail
  go_ret;exact⟨rfl,bt HB0.out HB1.out⟩
 have hg:=qBH HPAT.out hbag;have hl12:=hg.1;have HG:=hid hg.2;have K3:=hid (Q6 w1 _ ps bs.length (HP.out.below HB1.out) hpl);have HBAG:=hid hbag;clear hbag hg;go_wp2_with fail
 refine K3.out.mono ?_;rintro e w2 ⟨rfl,hw2⟩;subst w2;clear K3;cases hpar:vG ps bs.length
 ·obtain rfl:res=false:=by rw[HR.out];unfold zo;rw[hpar];simp
  go_wp2_with fail
  go_ret;exact⟨rfl,bt HB0.out HB1.out⟩
 have hpo:=qCN hpar;have K4:=hid (Yl w1 _ _ (.slice ah hs.length caph) (.slice aw ws.length capw) k n d bs ps hk6 (HBS.out.below HB1.out) HL.out hl12 (HP.out.below HB1.out) hpo);have x2:=qI HB1.out c2;have x3:=qI HB1.out c3;have x4:=qI HB1.out c4;have x5:=qI HB1.out c5;have HPAR:=hid hpar;clear hpar hpo;go_wp2_with fail
 refine K4.out.mono ?_;rintro e w2 ⟨rfl,hb2⟩;have HB2:=hid (bt HB1.out hb2);clear K4 hb2 x0 x1 x2 x3 x4 x5;cases htog:uy k bs ps
 ·obtain rfl:res=false:=by rw[HR.out];unfold zo;rw[htog];simp
  go_wp2_with fail
  go_ret;exact⟨rfl,bt HB0.out HB2.out⟩
 have K5:=hid (Xa w2 _ _ _ hs es bs (HH.out.below HB2.out) (HE.out.below HB2.out) HLE.out (HBS.out.below HB2.out) HL.out);have x0:=qI HB2.out c0;have x2:=qI HB2.out c2;have HTOG:=hid htog;clear htog;go_wp2_with fail
 refine K5.out.mono ?_;rintro e w3 ⟨rfl,hb3⟩;have HB3:=hid (bt HB2.out hb3);clear K5 hb3 x0 x2;cases hhom:vO hs es bs
 ·obtain rfl:res=false:=by rw[HR.out];unfold zo;rw[hhom];simp
  go_wp2_with fail
  go_ret;exact⟨rfl,bt HB0.out HB3.out⟩
 have hr:res=ki es bs ws (n,d):=by rw[HR.out];unfold zo;rw[HPAT.out,HBAG.out,HPAR.out,HTOG.out,hhom];rfl
 have K6:=hid (Zr w3 _ (.slice ap ps.length capp) (.slice ah hs.length caph) _ _ n d bs es ws (HBS.out.below HB3.out) HL.out hl12 (HWV.out.below HB3.out) (HE.out.below HB3.out) HLE.out hee HG.out);rw[<-hr]at K6;have x0:=qI HB3.out c0;have x1:=qI HB3.out c1;have x2:=qI HB3.out c2;have x3:=qI HB3.out c3;have x4:=qI HB3.out c4;have x5:=qI HB3.out c5;clear hhom hr HR;go_wp2_with fail
 refine K6.out.mono ?_;rintro e w4 ⟨rfl,hb4⟩;go_wp2_with fail
 go_ret;exact⟨rfl,bt HB0.out (bt HB3.out hb4)⟩
end Go.Proofs.YtjbpgdpciinlcaaGreat
