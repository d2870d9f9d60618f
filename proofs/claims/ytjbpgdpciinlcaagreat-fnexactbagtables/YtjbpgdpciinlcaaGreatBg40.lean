import Derived.Test.YtjbpgdpciinlcaaGreatBg29
set_option maxHeartbeats 40000000
set_option maxRecDepth 1000000
namespace Go.Proofs.YtjbpgdpciinlcaaGreat
open Go.RowKit
variable {k:Int}{l:List Int}
theorem XG(w:World)(vx vy:Value)(n:Nat)(most:Bool)(x y:Nat->Rat)(hn:n<=7)(hx:IR w vx (prs n x))(hy:IR w vy (prs n y))(px:Parts n x)(py:Parts n y):
 Cl 138 #[vx,vy,.bool most] w fun e w'=>e=.returned (.bool (uC n most x y))/\Bl w w':=by
 have hsx:=px.sum (nR n) hn;have hsy:=py.sum (nR n) hn;have KX:Hid (∀W,Bl w W->Cl 112 #[vx] W fun e w'=>e=.returned (.agg #[.int .i64 (Cov.sm n x).num,.int .i64 (Cov.sm n x).den])/\Bl W w'):=hid (fun W hW=>kJ W vx n x hn (hx.below hW) px);have KY:Hid (∀W,Bl w W->Cl 112 #[vy] W fun e w'=>e=.returned (.agg #[.int .i64 (Cov.sm n y).num,.int .i64 (Cov.sm n y).den])/\Bl W w'):=hid (fun W hW=>kJ W vy n y hn (hy.below hW) py);have K1:Hid (∀W,Cl 91 #[.agg #[.int .i64 (Cov.sm n x).num,.int .i64 (Cov.sm n x).den],.agg #[.int .i64 (Cov.sm n y).num,.int .i64 (Cov.sm n y).den]] W fun e w'=>e=.returned (.bool (decide (Cov.sm n x < Cov.sm n y)))/\Bl W w'):=hid (fun W=>uR _ _ W hsx hsy (by decide));have K2:Hid (∀W,Cl 91 #[.agg #[.int .i64 (Cov.sm n y).num,.int .i64 (Cov.sm n y).den],.agg #[.int .i64 (Cov.sm n x).num,.int .i64 (Cov.sm n x).den]] W fun e w'=>e=.returned (.bool (decide (Cov.sm n y < Cov.sm n x)))/\Bl W w'):=hid (fun W=>uR _ _ W hsy hsx (by decide));have HR:Hid (uC n most x y=if decide (Cov.sm n x < Cov.sm n y)=true then !most else if decide (Cov.sm n y < Cov.sm n x)=true then most else uB x y n 0):=hid (by unfold uC;simp only[decide_eq_true_eq]);generalize decide (Cov.sm n x < Cov.sm n y)=b1 at *;generalize decide (Cov.sm n y < Cov.sm n x)=b2 at *;generalize uC n most x y=R at *;generalize (Cov.sm n x).num=p1 at *;generalize (Cov.sm n x).den=p2 at *;generalize (Cov.sm n y).num=q1 at *;generalize (Cov.sm n y).den=q2 at *;clear hsx hsy;obtain⟨a,cap,rfl,hcx⟩:=hx;obtain⟨a2,cap2,rfl,hcy⟩:=hy;rw[qU]at hcx hcy;have HCX:=hid hcx;have HCY:=hid hcy;have HPX:=hid px;have HPY:=hid py;clear hcx hcy px py;simp only[qU]at *;go_enter Tryz.func138,Tryz.ntmps138
 go_upto_region 2 with (first|(go_at_call 112;refine(KX.out _ (bI _ _)).mono ?_;rintro e w1 ⟨rfl,hb1⟩))
 have hT:=vN w1 p1 p2 37;have hB:Bl w (w1.alloc (.cells #[.int .i64 p1,.int .i64 p2] 37)):=hb1.alloc hb1.size _;have hg1:w1.heap.size < (w1.alloc (.cells #[.int .i64 p1,.int .i64 p2] 37)).heap.size:=by simp
 generalize w1.alloc (.cells #[.int .i64 p1,.int .i64 p2] 37)=W1 at *;generalize w1.heap.size=g1 at *;clear hb1 KX;go_upto_region 3 with (first|(go_at_call 112;refine(KY.out _ hB).mono ?_;rintro e w2 ⟨rfl,hb2⟩))
 have hT1:=(hT.below hg1 hb2);have hg2:g1 < w2.heap.size:=bM hg1 hb2.size;have hT2:=vN w2 q1 q2 37;have hT3:Two (w2.alloc (.cells #[.int .i64 q1,.int .i64 q2] 37)) g1 p1 p2:=hT1.below hg2 ((bI _ _).alloc (nR _) _);have hB2:Bl w (w2.alloc (.cells #[.int .i64 q1,.int .i64 q2] 37)):=(bt hB hb2).alloc (bt hB hb2).size _;have hg3:w2.heap.size < (w2.alloc (.cells #[.int .i64 q1,.int .i64 q2] 37)).heap.size:=by simp
 generalize w2.alloc (.cells #[.int .i64 q1,.int .i64 q2] 37)=W2 at *;generalize w2.heap.size=g2 at *;have hg4:g1 < W2.heap.size:=by omega
 clear hT hT1 hb2 hB KY;have HB:=hid hB2;have HT1:=hid hT3;have HT2:=hid hT2;clear hB2;obtain⟨s1,s2,-,-⟩:=hT3;obtain⟨u1,u2,-,-⟩:=hT2;cases b1
 case true=>
  go_wp2_with (first|(go_at_call 91;refine(K1.out _).mono ?_;rintro e w3 ⟨rfl,hb3⟩))
  go_ret;exact⟨qG (by rw[HR.out];rfl),bt HB.out hb3⟩
 case false=>
  go_upto_region 5 with (first|(go_at_call 91;refine(K1.out _).mono ?_;rintro e w3 ⟨rfl,hb3⟩))
  obtain⟨s1',s2',-,-⟩:=HT1.out.below hg4 hb3;obtain⟨u1',u2',-,-⟩:=HT2.out.below hg3 hb3;have HB3:=hid (bt HB.out hb3);clear s1 s2 u1 u2 hb3 HB HT1 HT2 K1;cases b2
  case true=>
   go_wp2_with (first|(go_at_call 91;refine(K2.out _).mono ?_;rintro e w4 ⟨rfl,hb4⟩))
   go_ret;exact⟨qG (by rw[HR.out];rfl),bt HB3.out hb4⟩
  case false=>
   go_upto_region 7 with (first|(go_at_call 91;refine(K2.out _).mono ?_;rintro e w4 ⟨rfl,hb4⟩))
   have HB4:=hid (bt HB3.out hb4);have HR2:Hid (R=uB x y n 0):=hid (by rw[HR.out];rfl);clear HB3 hb4 HR K2 s1' s2' u1' u2';go_wp2;go_loopw [25] (fun t wr=>∃k:Nat,k<=n/\t=.int .i64 k/\Hid (Bl w wr/\R=uB x y (n - k) k)) (fun t _=>n - (intOf t).toNat)
   case atStart=>exact⟨0,nZ _,rfl,hid ⟨HB4.out,HR2.out⟩⟩
   case round=>
    obtain⟨k,hk,rfl,hH⟩:=hrel;by_cases hkn:k < n
    ·have i1:(k:Int) < (n:Int):=by omega
     have HRk:Hid (R=if x k < y k then true else if y k < x k then false else uB x y (n - (k+1)) (k+1)):=hid (by
      rw[hH.out.2,show n - k=(n - (k+1))+1 by omega];rfl)
     have HBk:=hid hH.out.1;have hsx:=HPX.out.sm hkn;have hsy:=HPY.out.sm hkn;rcases HCX.out with h0|⟨b,o,rfl,hcell⟩
     ·omega
     rcases HCY.out with h0|⟨b',o',rfl,hcell'⟩
     ·omega
     obtain⟨e1,e2⟩:=hcell k hkn;obtain⟨e3,e4⟩:=hcell' k hkn;rw[x9 hkn]at e1 e2 e3 e4;have HC:Hid (∀W,Bl w W->W.cell? ⟨b,o+k*2,none⟩=some (.int .i64 (x k).num)/\W.cell? ⟨b,o+k*2+1,none⟩=some (.int .i64 (x k).den)/\W.cell? ⟨b',o'+k*2,none⟩=some (.int .i64 (y k).num)/\W.cell? ⟨b',o'+k*2+1,none⟩=some (.int .i64 (y k).den)):=hid (fun W hW=>⟨(hW.cell (p:=⟨b,o+k*2,none⟩) (bL w _ e1)).trans e1,(hW.cell (p:=⟨b,o+k*2+1,none⟩) (bL w _ e2)).trans e2,(hW.cell (p:=⟨b',o'+k*2,none⟩) (bL w _ e3)).trans e3,(hW.cell (p:=⟨b',o'+k*2+1,none⟩) (bL w _ e4)).trans e4⟩);have KA:Hid (∀W,Cl 91 #[.agg #[.int .i64 (x k).num,.int .i64 (x k).den],.agg #[.int .i64 (y k).num,.int .i64 (y k).den]] W fun e w'=>e=.returned (.bool (decide (x k < y k)))/\Bl W w'):=hid (fun W=>uR _ _ W hsx hsy (by decide));have KB:Hid (∀W,Cl 91 #[.agg #[.int .i64 (y k).num,.int .i64 (y k).den],.agg #[.int .i64 (x k).num,.int .i64 (x k).den]] W fun e w'=>e=.returned (.bool (decide (y k < x k)))/\Bl W w'):=hid (fun W=>uR _ _ W hsy hsx (by decide));rw[show(if x k < y k then true else if y k < x k then false else uB x y (n - (k+1)) (k+1))=(if decide (x k < y k)=true then true else if decide (y k < x k)=true then false else uB x y (n - (k+1)) (k+1))by simp only[decide_eq_true_eq]]at HRk;generalize decide (x k < y k)=b3 at *;generalize decide (y k < x k)=b4 at *;generalize (x k).num=x1 at *;generalize (x k).den=x2 at *;generalize (y k).num=y1 at *;generalize (y k).den=y2 at *;obtain⟨c1,c2,c3,c4⟩:=HC.out wr HBk.out;clear hcell hcell' e1 e2 e3 e4 hH hsx hsy;cases b3
     case true=>
      go_wp2_with fail
      go_region_law (first|(go_simp;go_at_call 91;refine(KA.out _).mono ?_;rintro e w5 ⟨rfl,hb'⟩;have hb5:=qS hb'))
      all_goals
       go_wp2
       go_ret
       exact⟨qG (by rw[HRk.out];rfl),bt HBk.out hb5⟩
     case false=>
      go_wp2_with fail
      go_region_law (first|(go_simp;go_at_call 91;refine(KA.out _).mono ?_;rintro e w5 ⟨rfl,hb'⟩;have hb5:=qS hb'))
      all_goals
       have HB5:=hid (bt HBk.out hb5)
       obtain⟨f1,f2,f3,f4⟩:=HC.out w5 HB5.out
       clear c1 c2 c3 c4 hb' hb5 HBk
       cases b4
       case true=>
        go_wp2_with fail
        go_region_law (first|(go_simp;go_at_call 91;refine(KB.out _).mono ?_;rintro e w6 ⟨rfl,hb'⟩;have hb6:=qS hb'))
        all_goals
         go_wp2
         go_ret
         exact⟨qG (by rw[HRk.out];rfl),bt HB5.out hb6⟩
       case false=>
        go_wp2_with fail
        go_region_law (first|(go_simp;go_at_call 91;refine(KB.out _).mono ?_;rintro e w6 ⟨rfl,hb'⟩;have hb6:=qS hb'))
        all_goals
         have HF:Hid (Bl w w6/\R=uB x y (n - (k+1)) (k+1)):=hid ⟨bt HB5.out hb6,by rw[HRk.out];rfl⟩
         clear hb' hb6
         go_wp2
         go_roundw
         case rel=>exact⟨k+1,by omega,by go_num,HF⟩
         case measure=>simp[intOf];omega
    ·obtain rfl:k=n:=by omega
     have i1:¬((k:Int) < (k:Int)):=by omega
     have HX:=hH;clear hH;go_wp2;go_ret;refine⟨qG ?_,HX.out.1⟩;rw[HX.out.2,Nat.sub_self];rfl
def xL(k:Int)(l:List Int)(j:Nat):Bool:=decide (0<=l.getD j 0)&&decide (l.getD j 0 < k)&&(decide (j=0)||decide (l.getD (j - 1) 0 < l.getD j 0))
def zh(k:Int)(l:List Int):Bool:=(List.range l.length).all (xL k l)
theorem Zs(h:∀i,i < l.length->xL k l i=true):zh k l=true:=qa h
theorem JG{j:Nat}(hj:j < l.length)(h:xL k l j=false):zh k l=false:=qZ hj h
theorem JH(k:Int)(l:List Int)(j:Nat):
 (l.getD j 0 < 0/\xL k l j=false)∨(0<=l.getD j 0/\k<=l.getD j 0/\xL k l j=false)∨(0<=l.getD j 0/\l.getD j 0 < k/\j=0/\xL k l j=true)∨
 (0<=l.getD j 0/\l.getD j 0 < k/\0 < j/\l.getD j 0<=l.getD (j - 1) 0/\xL k l j=false)∨(0<=l.getD j 0/\l.getD j 0 < k/\0 < j/\l.getD (j - 1) 0 < l.getD j 0/\xL k l j=true):=by
 unfold xL;generalize l.getD j 0=x;generalize l.getD (j - 1) 0=y;by_cases h1:x < 0
 ·left;refine⟨h1,?_⟩;simp;omega
 ·by_cases h2:k<=x
  ·right;left;refine⟨by omega,h2,?_⟩;simp;omega
  ·by_cases h3:j=0
   ·right;right;left;refine⟨by omega,by omega,h3,?_⟩;simp[h3];omega
   ·by_cases h4:y < x
    ·right;right;right;right;refine⟨by omega,by omega,by omega,h4,?_⟩;simp;omega
    ·right;right;right;left;refine⟨by omega,by omega,by omega,by omega,?_⟩;simp;omega
theorem UN(hk:k<=6)(l:List Int):zh k l=(qP l&&zR k l):=by
 cases hs:qP l
 ·rw[Bool.false_and];refine Bool.eq_false_iff.2 fun h=>?_;unfold zh at h;rw[aT]at h
  have:qP l=true:=uu fun i hi=>by
   have:=h i (by simpa using hi);unfold xL at this;unfold zp;simp only[Bool.and_eq_true,Bool.or_eq_true,decide_eq_true_eq]at this ⊢;omega
  rw[this]at hs;cases hs
 rw[Bool.true_and];cases hl:zR k l
 ·refine Bool.eq_false_iff.2 fun h=>?_;unfold zR at hl;rw[Bool.or_eq_false_iff,decide_eq_false_iff_not,decide_eq_false_iff_not]at hl;unfold zh at h;rw[aT]at h;have:=h (l.length - 1) (by simp;omega);unfold xL at this;simp only[Bool.and_eq_true,decide_eq_true_eq]at this;exact hl.2 this.1.2
 ·refine Zs fun i hi=>?_;have h1:=yu hs hi;have h2:=J0 hs hl (xY hi);unfold xL;simp only[Bool.and_eq_true,Bool.or_eq_true,decide_eq_true_eq];omega
theorem jI(w:World)(k:Int)(hk0:0<=k)(hk6:k<=6)(v:Value)(l:List Int)(h:IS w v l)(hl:l.length<=1099511627776):
 Cl 63 #[v,.int .i64 k] w fun e w'=>e=.returned (.bool (zh k l))/\w'=w:=by
 obtain⟨a,cap,rfl,hc⟩:=h;obtain⟨n,hn⟩:∃n,n=l.length:=⟨_,rfl⟩;obtain⟨res,hres⟩:∃r,r=zh k l:=⟨_,rfl⟩;rw[<-hres];have HR:=hid hres;rw[<-hn]at hc hl ⊢;have HC:=hid hc;have HN:=hid hn;clear hc hn hres;go_enter Tryz.func63,Tryz.ntmps63
 go_wp2;go_loop [9] (fun t=>∃j:Nat,j<=n/\t=.int .i64 j/\Hid (∀i,i < j->xL k l i=true)) (fun t=>n - (intOf t).toNat)
 case atStart=>exact⟨0,nZ _,rfl,hid (fun i hi=>by omega)⟩
 case round=>
  obtain⟨j,hj,rfl,hok⟩:=hrel;by_cases hjn:j < n
  ·have i1:(j:Int) < (n:Int):=by omega
   rcases HC.out with h0|⟨b,o,rfl,hcell⟩
   ·omega
   ·have c1:w.cell? ⟨b,o+j,none⟩=some (.int .i64 (l.getD j 0)):=hcell j hjn;have hcs:=JH k l j;have fin:xL k l j=false->Hid (res=false):=fun e=>HR.out.trans (JG (by rw[<-HN.out];exact hjn) e)
    have nxt:xL k l j=true->Hid (∀i,i < j+1->xL k l i=true):=fun e i hi=>by
     by_cases e2:i=j
     ·rw[e2];exact e
     ·exact hok.out i (by omega)
    have c2:0 < j->w.cell? ⟨b,o+(j - 1),none⟩=some (.int .i64 (l.getD (j - 1) 0)):=fun e=>hcell (j - 1) (by omega);clear hcell hok;generalize l.getD j 0=x at *;generalize l.getD (j - 1) 0=y at *;rcases hcs with ⟨h1,h2⟩|⟨h1,h2,h3⟩|⟨h1,h2,h3,h4⟩|⟨h1,h2,h3,h4,h5⟩|⟨h1,h2,h3,h4,h5⟩
    ·have hf:=fin h2;clear c2 fin nxt h2;go_wp2_with (first|(go_at_call 66;refine(yD _ _ _ _ (by omega)).mono ?_;rintro e w' ⟨rfl,rfl⟩))
     go_ret;exact⟨qG (by rw[hf.out]),rfl⟩
    ·have hf:=fin h3;have d1:decide (x < 0)=false:=by simp;omega
     clear c2 fin nxt h3;go_wp2_with (first|(go_at_call 66;refine(yE _ _ _ _ (by omega) (by omega)).mono ?_;rintro e w' ⟨rfl,rfl⟩))
     go_ret;exact⟨qG (by rw[hf.out]),rfl⟩
    ·have hf:=nxt h4;have d1:decide (x < 0)=false:=by simp;omega
     have d2:decide (k<=x)=false:=by simp;omega
     subst h3;have c1':w.cell? ⟨b,o,none⟩=some (.int .i64 x):=by simpa using c1
     clear c2 fin nxt h4;go_wp2_with (first|(go_at_call 66;refine(qz _ _ _ _ (by omega) (by omega)).mono ?_;rintro e w' ⟨rfl,rfl⟩))
     go_round
     case rel=>exact⟨0+1,by omega,by go_num,hf⟩
     case measure=>simp[intOf];omega
    ·have hf:=fin h5;have d1:decide (x < 0)=false:=by simp;omega
     have d2:decide (k<=x)=false:=by simp;omega
     have c3:=c2 h3;have i3:(0:Int) < (j:Int):=by omega
     have i4:((j:Int) - 1).toNat=j - 1:=by omega
     clear c2 fin nxt h5;go_wp2_with (first|(go_at_call 66;refine(qz _ _ _ _ (by omega) (by omega)).mono ?_;rintro e w' ⟨rfl,rfl⟩))
     go_ret;exact⟨qG (by rw[hf.out]),rfl⟩
    ·have hf:=nxt h5;have d1:decide (x < 0)=false:=by simp;omega
     have d2:decide (k<=x)=false:=by simp;omega
     have d3:decide (x<=y)=false:=by simp;omega
     have c3:=c2 h3;have i3:(0:Int) < (j:Int):=by omega
     have i4:((j:Int) - 1).toNat=j - 1:=by omega
     clear c2 fin nxt h5;go_wp2_with (first|(go_at_call 66;refine(qz _ _ _ _ (by omega) (by omega)).mono ?_;rintro e w' ⟨rfl,rfl⟩))
     go_round
     case rel=>exact⟨j+1,by omega,by go_num,hf⟩
     case measure=>simp[intOf];omega
  ·obtain rfl:j=n:=by omega
   have hf:Hid (res=true):=HR.out.trans (Zs (fun i hi=>hok.out i (by rw[HN.out];exact hi)));have i1:¬((j:Int) < (j:Int)):=by omega
   clear hok;go_wp2;go_ret;exact⟨qG (by rw[hf.out]),rfl⟩
theorem jJ(w:World)(v v2:Value)(l l2:List Int)(h:IS w v l)(hl:l.length<=1099511627776)(h2:IS w v2 l2)(hl2:l2.length<=1099511627776):
 Cl 68 #[v,v2] w fun e w'=>e=.returned (.bool (xi l l2))/\w'=w:=by
 obtain⟨a,cap,rfl,hc⟩:=h;have H2:=hid h2;obtain⟨a2,cap2,rfl,-⟩:=h2;obtain⟨res,hres⟩:∃r,r=xi l l2:=⟨_,rfl⟩;rw[<-hres]
 have HF:Hid (∀j,j < l.length->decide (l.getD j 0∈l2)=false->res=false):=hid fun j hj e=>by
  rw[hres];unfold xi;exact zu (fun x=>decide (x∈l2)) 0 l j hj e
 have HT:Hid ((∀j,j < l.length->decide (l.getD j 0∈l2)=true)->res=true):=hid fun h1=>by
  rw[hres];unfold xi;exact yy (fun x=>decide (x∈l2)) 0 l h1
 obtain⟨n,hn⟩:∃n,n=l.length:=⟨_,rfl⟩;rw[<-hn]at hc hl HF HT ⊢;have HC:=hid hc;clear hc hn hres;go_enter Tryz.func68,Tryz.ntmps68
 go_wp2_with fail
 go_loop [9] (fun t=>∃j:Nat,j<=n/\t=.int .i64 j/\Hid (∀i,i < j->decide (l.getD i 0∈l2)=true)) (fun t=>n - (intOf t).toNat)
 case atStart=>exact⟨0,nZ _,rfl,hid (fun i hi=>by omega)⟩
 case round=>
  obtain⟨j,hj,rfl,hok⟩:=hrel;by_cases hjn:j < n
  ·have i1:(j:Int) < (n:Int):=by omega
   rcases HC.out with h0|⟨b,o,rfl,hcell⟩
   ·omega
   ·have c1:=hcell j hjn;have HK:=hid (zY w _ l2 (l.getD j 0) H2.out hl2);have fin:=HF.out j hjn
    have nxt:decide (l.getD j 0∈l2)=true->Hid (∀i,i < j+1->decide (l.getD i 0∈l2)=true):=fun e i hi=>by
     by_cases e2:i=j
     ·rw[e2];exact e
     ·exact hok.out i (by omega)
    clear hcell hok;generalize decide (l.getD j 0∈l2)=y at *;generalize l.getD j 0=x at *;cases y
    ·obtain rfl:=fin rfl;clear nxt;go_wp2_with fail
     refine HK.out.mono ?_;rintro e w1 ⟨rfl,hw1⟩;subst w1;go_wp2_with fail
     go_ret;exact⟨rfl,rfl⟩
    ·have hf:=nxt rfl;clear fin nxt;go_wp2_with fail
     refine HK.out.mono ?_;rintro e w1 ⟨rfl,hw1⟩;subst w1;go_wp2_with fail
     go_round
     case rel=>exact⟨j+1,by omega,by go_num,hf⟩
     case measure=>simp[intOf];omega
  ·obtain rfl:j=n:=by omega
   obtain rfl:=HT.out hok.out;have i1:¬((j:Int) < (j:Int)):=by omega
   clear hok;go_wp2_with fail
   go_ret;exact⟨rfl,rfl⟩
theorem JI{p:Int->Bool}{k:Nat}(hk:k < l.length):(l.take (k+1)).filter p=if p (l.getD k 0) then (l.take k).filter p++[l.getD k 0] else (l.take k).filter p:=by
 rw[tA,gE hk,List.filter_append];have e:l.getD k 0=l[k]:=by rw[gD,gE hk];rfl
 rw[e];simp only[Option.toList_some];by_cases h:p l[k]=true
 ·rw[if_pos h,List.filter_cons_of_pos h];rfl
 ·rw[if_neg h,List.filter_cons_of_neg h];simp
theorem Xc(w:World)(v v2:Value)(l l2:List Int)(h:IS w v l)(hl:l.length<=1099511627776)(h2:IS w v2 l2)(hl2:l2.length<=1099511627776):
 Cl 20 #[v,v2] w fun e w'=>∃u,e=.returned u/\w'.ownsRow w.heap.size 3 1 u (qL l2 l).length ((qL l2 l).map (Value.int .i64))/\Bl w w':=by
 obtain⟨i0,hi,hz0,hz1,hz2⟩:=info_parts Tryz.infoInt;obtain⟨a,cap,rfl,hc⟩:=h;have H2:=hid h2;obtain⟨a2,cap2,rfl,-⟩:=h2;obtain⟨PL,hPL⟩:∃PL:Nat->List Int,PL=fun k=>(l.take k).filter fun x=>decide (x∈l2):=⟨_,rfl⟩;have HS:Hid (∀k,k < l.length->PL (k+1)=if decide (l.getD k 0∈l2) then PL k++[l.getD k 0] else PL k):=hid fun k hk=>by rw[hPL];exact JI hk
 have H0:Hid (PL 0=[]):=hid (by rw[hPL];rfl);have HE:Hid (PL l.length=qL l2 l):=hid (by rw[hPL];simp[qL])
 have HLE:Hid (∀k,(PL k).length<=k):=hid fun k=>by
  rw[hPL];exact bK (List.length_filter_le _ _) (by simp;omega)
 rw[<-HE.out];obtain⟨n,hn⟩:∃n,n=l.length:=⟨_,rfl⟩;rw[<-hn]at hc hl HS ⊢;have HC:=hid hc;clear hc hn hPL HE;go_enter Tryz.func20,Tryz.ntmps20
 go_wp2;have b0:Bl w (w.alloc (.cells #[] 3)):=(bI _ _).alloc (nR _) _;have HB0:=hid b0;clear b0;go_loopw [5,11] (fun v t wr=>∃k:Nat,k<=n/\t=.int .i64 k/\wr.ownsRow w.heap.size 3 1 v (PL k).length ((PL k).map (Value.int .i64))/\Bl w wr) (fun _ t _=>n - (intOf t).toNat)
 case atStart=>exact⟨0,nZ _,rfl,by rw[H0.out];exact oM w #[] 0 (nR _) (by decide) rfl,HB0.out⟩
 case round=>
  clear HB0;obtain⟨k,hk,rfl,hown,hnx⟩:=hrel;have hple:=HLE.out k;have hns:=hnx.size;by_cases hkn:k < n
  ·have i1:(k:Int) < (n:Int):=by omega
   rcases HC.out with h0|⟨b,o,rfl,hcell⟩
   ·omega
   ·have c1:=qI hnx (hcell k hkn);have HK:=hid (zY wr _ l2 (l.getD k 0) (H2.out.below hnx) hl2);have e1:=HS.out k hkn;clear hcell;generalize decide (l.getD k 0∈l2)=y at *;generalize l.getD k 0=x at *;cases y
    ·rw[if_neg (by decide)]at e1;have E1:=hid e1;clear e1;go_wp2_with fail
     refine HK.out.mono ?_;rintro e w1 ⟨rfl,hw1⟩;subst w1;go_wp2_with fail
     go_roundw
     case rel=>exact⟨k+1,by omega,by go_num,by rw[E1.out];exact hown,hnx⟩
     case measure=>simp[intOf];omega
    ·rw[if_pos rfl]at e1;have E1:=hid e1;clear e1;go_wp2_with fail
     refine HK.out.mono ?_;rintro e w1 ⟨rfl,hw1⟩;subst w1
     go_wp2_with (first
      |(at_builtin;refine wpList_append_own _ rfl _ _ 24 rfl w.heap.size 3 i0 (.int .i64 0) 1 8 Tryz.underlying24 hi hz0 hz1 hz2 rfl (by decide) _ _ _ rfl (hown.alloc _) ⟨wr.heap.size,0,none⟩ 1 1 [.int .i64 x] rfl rfl ?c1 ?c2 ?c3 ?c4 ?c5 ?_)|fail)
     case c1=>
      intro j u hj;match j,hj with
      |0,hj=>simp at hj;subst hj;simp[Addr.add]
     case c2=>intro u hu;simp at hu;subst hu;rfl
     case c3=>unfold maxLen;omega
     case c4=>omega
     case c5=>simp;omega
     intro v' w1 hown' hgrow _;have hb:=jg hns hown hnx hgrow
     have hown2:w1.ownsRow w.heap.size 3 1 v' (PL (k+1)).length ((PL (k+1)).map (Value.int .i64)):=by
      rw[E1.out];simpa using hown'
     clear hown' hgrow hown;go_wp2;go_roundw
     case rel=>exact⟨k+1,by omega,by go_num,hown2,hb⟩
     case measure=>simp[intOf];omega
  ·obtain rfl:k=n:=by omega
   have i1:¬((k:Int) < (k:Int)):=by omega
   go_wp2;go_ret;exact⟨_,rfl,hown,hnx⟩
end Go.Proofs.YtjbpgdpciinlcaaGreat
