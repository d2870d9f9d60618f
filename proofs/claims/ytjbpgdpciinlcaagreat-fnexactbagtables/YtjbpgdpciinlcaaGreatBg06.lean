import Derived.Test.YtjbpgdpciinlcaaGreatBg05
set_option maxHeartbeats 40000000
set_option maxRecDepth 1000000
namespace Go.Proofs.YtjbpgdpciinlcaaGreat
open Go.RowKit
variable {q:Int}{rows:List (List Int)}{a b:List Int}{xs:List Value}{B j n s:Nat}{e:TypeId}{w:World}
def qD:List Int->List Int->Int
 |[],[]=>0
 |[],_::_=>-1
 |_::_,[]=>1
 |x::a,y::b=>if x < y then -1 else if y < x then 1 else qD a b
theorem zq{l:List Int}(h:j < l.length):l.drop j=l.getD j 0::l.drop (j+1):=by
 rw[gD,gE h];exact List.drop_eq_getElem_cons h
theorem vH(a b:List Int):∀j,j<=a.length->j<=b.length->(∀i,i < j->a.getD i 0=b.getD i 0)->qD a b=qD (a.drop j) (b.drop j):=by
 intro j;induction j with
 |zero=>intros;simp
 |succ j ih=>
  intro h1 h2 h3;rw[ih (by omega) (by omega) (fun i hi=>h3 i (by omega)),zq (show j < a.length by omega),zq (show j < b.length by omega),h3 j (by omega)];simp[qD]
theorem Ji(h1:j < a.length)(h2:j < b.length)(h3:∀i,i < j->a.getD i 0=b.getD i 0)(h4:a.getD j 0 < b.getD j 0):qD a b=-1:=by
 rw[vH a b j (by omega) (by omega) h3,zq h1,zq h2];simp only[qD];rw[if_pos h4]
theorem XH(h1:j < a.length)(h2:j < b.length)(h3:∀i,i < j->a.getD i 0=b.getD i 0)(h4:b.getD j 0 < a.getD j 0):qD a b=1:=by
 rw[vH a b j (by omega) (by omega) h3,zq h1,zq h2];simp only[qD];rw[if_neg (by omega),if_pos h4]
theorem ZM(h2:a.length < b.length)(h3:∀i,i < a.length->a.getD i 0=b.getD i 0):qD a b=-1:=by
 rw[vH a b a.length (by omega) (by omega) h3,zq h2,List.drop_length];rfl
theorem Xv(h2:b.length < a.length)(h3:∀i,i < b.length->a.getD i 0=b.getD i 0):qD a b=1:=by
 rw[vH a b b.length (by omega) (by omega) h3,zq h2,List.drop_length];rfl
theorem Xw(h2:a.length=b.length)(h3:∀i,i < a.length->a.getD i 0=b.getD i 0):qD a b=0:=by
 rw[vH a b a.length (by omega) (by omega) h3,List.drop_length,h2,List.drop_length];rfl
def qBf(x y:Int):Int:=if x < y then -1 else if y < x then 1 else 0
theorem Y8(w:World)(x y:Int):
 Cl 114 #[.int .i64 x,.int .i64 y] w fun e w'=>e=.returned (.int .i64 (qBf x y))/\w'=w:=by
 have hx:(x != x)=false:=by simp
 have hy:(y != y)=false:=by simp
 unfold qBf;by_cases h1:x < y
 ·rw[if_pos h1];go_enter Tryz.func114,Tryz.ntmps114
  go_wp2;go_ret;exact⟨rfl,rfl⟩
 ·rw[if_neg h1];by_cases h2:y < x
  ·rw[if_pos h2];go_enter Tryz.func114,Tryz.ntmps114
   go_wp2;go_ret;exact⟨rfl,rfl⟩
  ·rw[if_neg h2];go_enter Tryz.func114,Tryz.ntmps114
   go_wp2;go_ret;exact⟨rfl,rfl⟩
theorem ZN{la lb:List Int}(h:∀i,i < j->la.getD i 0=lb.getD i 0)(e:la.getD j 0=lb.getD j 0):∀i,i < j+1->la.getD i 0=lb.getD i 0:=fun i hi=>by
 by_cases e2:i=j
 ·rw[e2];exact e
 ·exact h i (by omega)
theorem ym(w:World)(va vb:Value)(la lb:List Int)(ha:IS w va la)(hb:IS w vb lb)(hl:la.length<=1099511627776)(hl2:lb.length<=1099511627776):
 Cl 92 #[va,vb] w fun e w'=>e=.returned (.int .i64 (qD la lb))/\w'=w:=by
 obtain⟨a,cap,rfl,hc⟩:=ha;obtain⟨a',cap',rfl,hc'⟩:=hb;obtain⟨n,hn⟩:∃n,n=la.length:=⟨_,rfl⟩;obtain⟨m,hm⟩:∃m,m=lb.length:=⟨_,rfl⟩;obtain⟨res,hres⟩:∃r,r=qD la lb:=⟨_,rfl⟩;rw[<-hres];rw[<-hn]at hc hl ⊢;rw[<-hm]at hc' hl2 ⊢;have HR:=hid hres;have HC:=hid hc;have HC':=hid hc';have HN:=hid hn;have HM:=hid hm;clear hc hc' hn hm hres;go_enter Tryz.func92,Tryz.ntmps92
 go_wp2;go_loop [11] (fun t=>∃j:Nat,j<=n/\j<=m/\t=.int .i64 j/\Hid (∀i,i < j->la.getD i 0=lb.getD i 0)) (fun t=>n - (intOf t).toNat)
 case atStart=>exact⟨0,nZ _,nZ _,rfl,hid (fun i hi=>by omega)⟩
 case round=>
  obtain⟨j,hj,hjm,rfl,hok⟩:=hrel;by_cases hjn:j < n
  ·have i1:(j:Int) < (n:Int):=by omega
   rcases HC.out with h0|⟨b,o,rfl,hcell⟩
   ·omega
   ·have c1:w.cell? ⟨b,o+j,none⟩=some (.int .i64 (la.getD j 0)):=hcell j hjn;by_cases hjm':j < m
    ·have i2:¬((m:Int)<=(j:Int)):=by omega
     rcases HC'.out with h0|⟨b',o',rfl,hcell'⟩
     ·omega
     ·have c2:w.cell? ⟨b',o'+j,none⟩=some (.int .i64 (lb.getD j 0)):=hcell' j hjm';have HK:=hid (Y8 w (la.getD j 0) (lb.getD j 0));have f1:la.getD j 0 < lb.getD j 0->Hid (res=-1):=fun e=>HR.out.trans (Ji (by rw[<-HN.out];exact hjn) (by rw[<-HM.out];exact hjm') hok.out e);have f2:lb.getD j 0 < la.getD j 0->Hid (res=1):=fun e=>HR.out.trans (XH (by rw[<-HN.out];exact hjn) (by rw[<-HM.out];exact hjm') hok.out e);have f3:la.getD j 0=lb.getD j 0->Hid (∀i,i < j+1->la.getD i 0=lb.getD i 0):=ZN hok.out;clear hcell hcell' hok;unfold qBf at HK;generalize la.getD j 0=x at *;generalize lb.getD j 0=y at *;by_cases h1:x < y
      ·have hf:=f1 h1;rw[if_pos h1]at HK;clear f1 f2 f3;go_wp2_with (first|(go_at_call 114;refine HK.out.mono ?_;rintro e w' ⟨rfl,hw'⟩;subst w'))
       go_ret;exact⟨qO hf.out.symm,rfl⟩
      ·by_cases h2:y < x
       ·have hf:=f2 h2;rw[if_neg h1,if_pos h2]at HK;clear f1 f2 f3;go_wp2_with (first|(go_at_call 114;refine HK.out.mono ?_;rintro e w' ⟨rfl,hw'⟩;subst w'))
        go_ret;exact⟨qO hf.out.symm,rfl⟩
       ·have hf:=f3 (by omega);rw[if_neg h1,if_neg h2]at HK;clear f1 f2 f3;go_wp2_with (first|(go_at_call 114;refine HK.out.mono ?_;rintro e w' ⟨rfl,hw'⟩;subst w'))
        go_round
        case rel=>exact⟨j+1,by omega,by omega,by go_num,hf⟩
        case measure=>simp[intOf];omega
    ·have i2:(m:Int)<=(j:Int):=by omega
     obtain rfl:j=m:=by omega
     have hf:Hid (res=1):=HR.out.trans (Xv (by rw[<-HN.out,<-HM.out];exact hjn) (by rw[<-HM.out];exact hok.out));clear hcell hok;go_wp2;go_ret;exact⟨qO hf.out.symm,rfl⟩
  ·obtain rfl:j=n:=by omega
   have i1:¬((j:Int) < (j:Int)):=by omega
   by_cases hjm':j < m
   ·have i2:(j:Int) < (m:Int):=by omega
    have hf:Hid (res=-1):=HR.out.trans (ZM (by rw[<-HN.out,<-HM.out];exact hjm') (by rw[<-HN.out];exact hok.out));clear hok;go_wp2;go_ret;exact⟨qO hf.out.symm,rfl⟩
   ·have i2:¬((j:Int) < (m:Int)):=by omega
    have hf:Hid (res=0):=HR.out.trans (Xw (by rw[<-HN.out,<-HM.out];omega) (by rw[<-HN.out];exact hok.out));clear hok;go_wp2;go_ret;exact⟨qO hf.out.symm,rfl⟩
theorem qy(w:World)(va vb:Value)(la lb:List Int)(ha:IS w va la)(hb:IS w vb lb)(hl:la.length<=1099511627776)(hl2:lb.length<=1099511627776):
 Cl 71 #[va,vb] w fun e w'=>e=.returned (.int .i64 (qD la lb))/\∃q,w'=w.drewN q:=by
 obtain⟨a,cap,rfl,hc⟩:=ha;obtain⟨a',cap',rfl,hc'⟩:=hb;obtain⟨n,hn⟩:∃n,n=la.length:=⟨_,rfl⟩;obtain⟨m,hm⟩:∃m,m=lb.length:=⟨_,rfl⟩;obtain⟨res,hres⟩:∃r,r=qD la lb:=⟨_,rfl⟩;rw[<-hres];rw[<-hn]at hc hl ⊢;rw[<-hm]at hc' hl2 ⊢;have HR:=hid hres;have HC:=hid hc;have HC':=hid hc';have HN:=hid hn;have HM:=hid hm;clear hc hc' hn hm hres;go_enter Tryz.func71,Tryz.ntmps71
 go_wp2;go_loopw [5] (fun t wr=>∃j:Nat,j<=n/\j<=m/\t=.int .i64 j/\Hid (∃q,wr=w.drewN q)/\Hid (∀i,i < j->la.getD i 0=lb.getD i 0)) (fun t _=>n - (intOf t).toNat)
 case atStart=>exact⟨0,nZ _,nZ _,rfl,hid ⟨0,rfl⟩,hid (fun i hi=>by omega)⟩
 case round=>
  obtain⟨j,hj,hjm,rfl,hB,hok⟩:=hrel;by_cases hjn:j < n
  ·have i1:(j:Int) < (n:Int):=by omega
   by_cases hjm':j < m
   ·have i2:(j:Int) < (m:Int):=by omega
    rcases HC.out with h0|⟨b,o,rfl,hcell⟩
    ·omega
    ·have c1:wr.cell? ⟨b,o+j,none⟩=some (.int .i64 (la.getD j 0)):=by obtain⟨m,rfl⟩:=hB.out;exact hcell j hjn
     rcases HC'.out with h0|⟨b',o',rfl,hcell'⟩
     ·omega
     ·have c2:wr.cell? ⟨b',o'+j,none⟩=some (.int .i64 (lb.getD j 0)):=by obtain⟨m,rfl⟩:=hB.out;exact hcell' j hjm'
      have f1:la.getD j 0 < lb.getD j 0->Hid (res=-1):=fun e=>HR.out.trans (Ji (by rw[<-HN.out];exact hjn) (by rw[<-HM.out];exact hjm') hok.out e);have f2:lb.getD j 0 < la.getD j 0->Hid (res=1):=fun e=>HR.out.trans (XH (by rw[<-HN.out];exact hjn) (by rw[<-HM.out];exact hjm') hok.out e);have f3:la.getD j 0=lb.getD j 0->Hid (∀i,i < j+1->la.getD i 0=lb.getD i 0):=ZN hok.out;clear hcell hcell' hok;generalize la.getD j 0=x at *;generalize lb.getD j 0=y at *;by_cases h1:x < y
      ·have hf:=f1 h1;clear f1 f2 f3;go_wp2_with fail
       go_quiet (fail)
       go_wp2;go_ret;exact⟨qO hf.out.symm,zM _ hB.out⟩
      ·by_cases h2:y < x
       ·have hf:=f2 h2;clear f1 f2 f3;go_wp2_with fail
        go_quiet (fail)
        go_wp2_with fail
        go_quiet (fail)
        go_wp2;go_ret;exact⟨qO hf.out.symm,zM _ (zM _ hB.out)⟩
       ·have hf:=f3 (by omega);clear f1 f2 f3;go_wp2_with fail
        go_quiet (fail)
        go_wp2_with fail
        go_quiet (fail)
        go_wp2;go_roundw
        case rel=>exact⟨j+1,by omega,by omega,by go_num,hid (zM _ hB.out),hf⟩
        case measure=>simp[intOf];omega
   ·obtain rfl:j=m:=by omega
    have i2:¬((j:Int) < (j:Int)):=by omega
    have i3:¬((n:Int)=(j:Int)):=by omega
    have i4:¬((n:Int) < (j:Int)):=by omega
    have hf:Hid (res=1):=HR.out.trans (Xv (by rw[<-HN.out,<-HM.out];exact hjn) (by rw[<-HM.out];exact hok.out));clear hok;go_wp2;go_ret;exact⟨qO hf.out.symm,hB.out⟩
  ·obtain rfl:j=n:=by omega
   have i1:¬((j:Int) < (j:Int)):=by omega
   by_cases hjm':j < m
   ·have i2:(j:Int) < (m:Int):=by omega
    have i3:¬((j:Int)=(m:Int)):=by omega
    have hf:Hid (res=-1):=HR.out.trans (ZM (by rw[<-HN.out,<-HM.out];exact hjm') (by rw[<-HN.out];exact hok.out));clear hok;go_wp2;go_ret;exact⟨qO hf.out.symm,hB.out⟩
   ·obtain rfl:j=m:=by omega
    have hf:Hid (res=0):=HR.out.trans (Xw (by rw[<-HN.out,<-HM.out]) (by rw[<-HN.out];exact hok.out));clear hok;go_wp2;go_ret;exact⟨qO hf.out.symm,hB.out⟩
def rowAt(rows:List (List Int))(q:Int)(j:Nat):Bool:=decide (((rows.getD j []).length:Int)=q)&&(decide (j=0)||decide (qD (rows.getD (j - 1) []) (rows.getD j []) < 0))
def xy(rows:List (List Int))(q:Int):Bool:=(List.range rows.length).all (rowAt rows q)
theorem jO(h:∀i,i < rows.length->rowAt rows q i=true):xy rows q=true:=by
 unfold xy;rw[aT];intro i hi;exact h i (by simpa using hi)
theorem QU(hj:j < rows.length)(h:rowAt rows q j=false):xy rows q=false:=by
 unfold xy;rw[List.all_eq_false];exact⟨j,by simpa using hj,by rw[h];decide⟩
theorem QV(rows:List (List Int))(q:Int)(j:Nat):
 (((rows.getD j []).length:Int)≠q/\rowAt rows q j=false)∨(((rows.getD j []).length:Int)=q/\j=0/\rowAt rows q j=true)∨
 (((rows.getD j []).length:Int)=q/\0 < j/\0<=qD (rows.getD (j - 1) []) (rows.getD j [])/\rowAt rows q j=false)∨(((rows.getD j []).length:Int)=q/\0 < j/\qD (rows.getD (j - 1) []) (rows.getD j []) < 0/\rowAt rows q j=true):=by
 unfold rowAt;generalize ((rows.getD j []).length:Int)=x;generalize qD (rows.getD (j - 1) []) (rows.getD j [])=y;by_cases h1:x=q
 ·right;by_cases h3:j=0
  ·left;refine⟨h1,h3,?_⟩;simp[h3,h1]
  ·right;by_cases h4:y < 0
   ·right;refine⟨h1,by omega,h4,?_⟩;simp[h1];omega
   ·left;refine⟨h1,by omega,by omega,?_⟩;simp[h1];omega
 ·left;exact⟨h1,by simp[h1]⟩
theorem kG(w:World)(vr:Value)(rows:List (List Int))(q:Int)(h:ISS w vr rows)(hl:qQ rows):
 Cl 76 #[vr,.int .i64 q] w fun e w'=>e=.returned (.bool (xy rows q))/\w'=w:=by
 obtain⟨a,cap,rfl,hc⟩:=h;obtain⟨hl1,hl2⟩:=hl;obtain⟨n,hn⟩:∃n,n=rows.length:=⟨_,rfl⟩;obtain⟨res,hres⟩:∃r,r=xy rows q:=⟨_,rfl⟩;rw[<-hres];rw[<-hn]at hc hl1 ⊢;have HR:=hid hres;have HC:=hid hc;have HN:=hid hn;have HL:=hid hl2;clear hc hn hres hl2;go_enter Tryz.func76,Tryz.ntmps76
 go_wp2;go_loop [9] (fun t=>∃j:Nat,j<=n/\t=.int .i64 j/\Hid (∀i,i < j->rowAt rows q i=true)) (fun t=>n - (intOf t).toNat)
 case atStart=>exact⟨0,nZ _,rfl,hid (fun i hi=>by omega)⟩
 case round=>
  obtain⟨j,hj,rfl,hok⟩:=hrel;by_cases hjn:j < n
  ·have i1:(j:Int) < (n:Int):=by omega
   rcases HC.out with h0|⟨b,o,rfl,hcell⟩
   ·omega
   ·obtain⟨u,c1,hu⟩:=hcell j hjn;have hcs:=QV rows q j;have fin:rowAt rows q j=false->Hid (res=false):=fun e=>HR.out.trans (QU (by rw[<-HN.out];exact hjn) e)
    have nxt:rowAt rows q j=true->Hid (∀i,i < j+1->rowAt rows q i=true):=fun e i hi=>by
     by_cases e2:i=j
     ·rw[e2];exact e
     ·exact hok.out i (by omega)
    have hp:0 < j->∃u',w.cell? ⟨b,o+(j - 1),none⟩=some u'/\IS w u' (rows.getD (j - 1) []):=fun e=>hcell (j - 1) (by omega);have HU:=hid hu;have hm:=HL.out j;obtain⟨a1,cap1,rfl,-⟩:=hu;clear hcell hok;rcases hcs with ⟨h1,h2⟩|⟨h1,h2,h3⟩|⟨h1,h2,h3,h4⟩|⟨h1,h2,h3,h4⟩
    ·have hf:=fin h2;clear hp fin nxt h2;generalize (rows.getD j []).length=m at *;go_wp2;go_ret;exact⟨qG (by rw[hf.out]),rfl⟩
    ·have hf:=nxt h3;subst h2;have c1':w.cell? ⟨b,o,none⟩=some (.slice a1 (rows.getD 0 []).length cap1):=by simpa using c1
     clear hp fin nxt h3 HU;generalize (rows.getD 0 []).length=m at *;subst h1;go_wp2;go_round
     case rel=>exact⟨0+1,by omega,by go_num,hf⟩
     case measure=>simp[intOf];omega
    ·have hf:=fin h4;obtain⟨u',c2,hu'⟩:=hp h2;have HK:=hid (ym w u' _ (rows.getD (j - 1) []) (rows.getD j []) hu' HU.out (HL.out (j - 1)) hm);obtain⟨a2,cap2,rfl,-⟩:=hu';have i3:(0:Int) < (j:Int):=by omega
     have i4:((j:Int) - 1).toNat=j - 1:=by omega
     clear hp fin nxt h4 HU;generalize qD (rows.getD (j - 1) []) (rows.getD j [])=y at *;generalize (rows.getD j []).length=m at *;generalize (rows.getD (j - 1) []).length=m' at *;subst h1;go_wp2_with (first|(go_at_call 92;refine HK.out.mono ?_;rintro e w' ⟨rfl,hw'⟩;subst w'))
     go_ret;exact⟨qG (by rw[hf.out]),rfl⟩
    ·have hf:=nxt h4;obtain⟨u',c2,hu'⟩:=hp h2;have HK:=hid (ym w u' _ (rows.getD (j - 1) []) (rows.getD j []) hu' HU.out (HL.out (j - 1)) hm);obtain⟨a2,cap2,rfl,-⟩:=hu';have i3:(0:Int) < (j:Int):=by omega
     have i4:((j:Int) - 1).toNat=j - 1:=by omega
     clear hp fin nxt h4 HU;generalize qD (rows.getD (j - 1) []) (rows.getD j [])=y at *;generalize (rows.getD j []).length=m at *;generalize (rows.getD (j - 1) []).length=m' at *;subst h1;have i5:¬(0<=y):=by omega
     go_wp2_with (first|(go_at_call 92;refine HK.out.mono ?_;rintro e w' ⟨rfl,hw'⟩;subst w'))
     go_round
     case rel=>exact⟨j+1,by omega,by go_num,hf⟩
     case measure=>simp[intOf];omega
  ·obtain rfl:j=n:=by omega
   have hf:Hid (res=true):=HR.out.trans (jO (fun i hi=>hok.out i (by rw[HN.out];exact hi)));have i1:¬((j:Int) < (j:Int)):=by omega
   clear hok;go_wp2;go_ret;exact⟨qG (by rw[hf.out]),rfl⟩
theorem kL(w:World)(vr:Value)(rows:List (List Int))(q:Int)(h:ISS w vr rows)(hl:qQ rows):
 Cl 64 #[vr,.int .i64 q] w fun e w'=>e=.returned (.bool (xy rows q))/\∃q,w'=w.drewN q:=by
 obtain⟨a,cap,rfl,hc⟩:=h;obtain⟨hl1,hl2⟩:=hl;obtain⟨n,hn⟩:∃n,n=rows.length:=⟨_,rfl⟩;obtain⟨res,hres⟩:∃r,r=xy rows q:=⟨_,rfl⟩;rw[<-hres];rw[<-hn]at hc hl1 ⊢;have HR:=hid hres;have HC:=hid hc;have HN:=hid hn;have HL:=hid hl2;clear hc hn hres hl2;go_enter Tryz.func64,Tryz.ntmps64
 go_wp2;go_loopw [9] (fun t wr=>∃j:Nat,j<=n/\t=.int .i64 j/\Hid (∃k,wr=w.drewN k)/\Hid (∀i,i < j->rowAt rows q i=true)) (fun t _=>n - (intOf t).toNat)
 case atStart=>exact⟨0,nZ _,rfl,hid ⟨0,rfl⟩,hid (fun i hi=>by omega)⟩
 case round=>
  obtain⟨j,hj,rfl,hB,hok⟩:=hrel;by_cases hjn:j < n
  ·have i1:(j:Int) < (n:Int):=by omega
   rcases HC.out with h0|⟨b,o,rfl,hcell⟩
   ·omega
   ·obtain⟨u,c1,hu⟩:∃u,wr.cell? ⟨b,o+j,none⟩=some u/\IS wr u (rows.getD j []):=by obtain⟨k,rfl⟩:=hB.out;exact hcell j hjn
    have hcs:=QV rows q j;have fin:rowAt rows q j=false->Hid (res=false):=fun e=>HR.out.trans (QU (by rw[<-HN.out];exact hjn) e)
    have nxt:rowAt rows q j=true->Hid (∀i,i < j+1->rowAt rows q i=true):=fun e i hi=>by
     by_cases e2:i=j
     ·rw[e2];exact e
     ·exact hok.out i (by omega)
    have hp:0 < j->∃u',wr.cell? ⟨b,o+(j - 1),none⟩=some u'/\IS wr u' (rows.getD (j - 1) []):=fun e=>by obtain⟨k,rfl⟩:=hB.out;exact hcell (j - 1) (by omega)
    have HU:=hid hu;have hm:=HL.out j;obtain⟨a1,cap1,rfl,-⟩:=hu;clear hcell hok;rcases hcs with ⟨h1,h2⟩|⟨h1,h2,h3⟩|⟨h1,h2,h3,h4⟩|⟨h1,h2,h3,h4⟩
    ·have hf:=fin h2;clear hp fin nxt h2;generalize (rows.getD j []).length=m at *;go_wp2;go_ret;exact⟨qG (by rw[hf.out]),hB.out⟩
    ·have hf:=nxt h3;subst h2;have c1':wr.cell? ⟨b,o,none⟩=some (.slice a1 (rows.getD 0 []).length cap1):=by simpa using c1
     clear hp fin nxt h3 HU;generalize (rows.getD 0 []).length=m at *;subst h1;go_wp2;go_roundw
     case rel=>exact⟨0+1,by omega,by go_num,hB,hf⟩
     case measure=>simp[intOf];omega
    ·have hf:=fin h4;obtain⟨u',c2,hu'⟩:=hp h2;have HK:=hid (qy wr u' _ (rows.getD (j - 1) []) (rows.getD j []) hu' HU.out (HL.out (j - 1)) hm);obtain⟨a2,cap2,rfl,-⟩:=hu';have i3:(0:Int) < (j:Int):=by omega
     have i4:((j:Int) - 1).toNat=j - 1:=by omega
     clear hp fin nxt h4 HU;generalize qD (rows.getD (j - 1) []) (rows.getD j [])=y at *;generalize (rows.getD j []).length=m at *;generalize (rows.getD (j - 1) []).length=m' at *;subst h1;go_wp2_with (first|(go_at_call 71;refine HK.out.mono ?_;rintro e w' ⟨rfl,q',hw'⟩;subst w'))
     go_ret;exact⟨qG (by rw[hf.out]),zM _ hB.out⟩
    ·have hf:=nxt h4;obtain⟨u',c2,hu'⟩:=hp h2;have HK:=hid (qy wr u' _ (rows.getD (j - 1) []) (rows.getD j []) hu' HU.out (HL.out (j - 1)) hm);obtain⟨a2,cap2,rfl,-⟩:=hu';have i3:(0:Int) < (j:Int):=by omega
     have i4:((j:Int) - 1).toNat=j - 1:=by omega
     clear hp fin nxt h4 HU;generalize qD (rows.getD (j - 1) []) (rows.getD j [])=y at *;generalize (rows.getD j []).length=m at *;generalize (rows.getD (j - 1) []).length=m' at *;subst h1;have i5:¬(0<=y):=by omega
     go_wp2_with (first|(go_at_call 71;refine HK.out.mono ?_;rintro e w' ⟨rfl,q',hw'⟩;subst w'))
     go_roundw
     case rel=>exact⟨j+1,by omega,by go_num,hid (zM _ hB.out),hf⟩
     case measure=>simp[intOf];omega
  ·obtain rfl:j=n:=by omega
   have hf:Hid (res=true):=HR.out.trans (jO (fun i hi=>hok.out i (by rw[HN.out];exact hi)));have i1:¬((j:Int) < (j:Int)):=by omega
   clear hok;go_wp2;go_ret;exact⟨qG (by rw[hf.out]),hB.out⟩
theorem Tryz.infoRatS:(Tryz.prog.info? 37).map (fun i=>(i.zero,i.size,i.bytes))=some (some (.agg #[.int .i64 0,.int .i64 0]),2,16):=by kernel_rfl
def zs(k:Nat):List Value:=(List.replicate k [Value.int .i64 0,Value.int .i64 1]).flatten
theorem J8(k:Nat):zs (k+1)=zs k++[.int .i64 0,.int .i64 1]:=by
 simp[zs,List.replicate_succ',List.flatten_append]
theorem zG{wr w1:World}{u:Value}{o:Obj}(hB:B<=wr.heap.size)
 (hown:wr.ownsRow B e s u n xs) (hnx:Below B w wr) (hgrow:(wr.alloc o).grownBy w1 u.ownBlock):Below B w w1:=
 (hnx.alloc hB o).grown hgrow (by simp;omega) (fun j hj=>(hown.lt j hj).1)
theorem Yv(w:World)(n:Nat)(hn:n<=1000):
 Cl 167 #[.int .i64 n] w fun e w'=>∃v,e=.returned v/\w'.ownsRow w.heap.size 37 2 v n (zs n)/\Bl w w':=by
 obtain⟨i0,hi,hz0,hz1,hz2⟩:=info_parts Tryz.infoRatS;go_enter Tryz.func167,Tryz.ntmps167
 go_wp2;go_loopw [3,4] (fun v t wr=>∃k:Nat,k<=n/\t=.int .i64 k/\wr.ownsRow w.heap.size 37 2 v k (zs k)/\Bl w wr) (fun _ t _=>n - (intOf t).toNat)
 case atStart=>exact⟨0,nZ _,rfl,oM w #[] 0 (nR _) (by decide) rfl,(bI _ _).alloc (nR _) _⟩
 case round=>
  obtain⟨k,hk,rfl,hown,hnx⟩:=hrel;have hns:=hnx.size;by_cases hkn:k < n
  ·have i1:(k:Int) < (n:Int):=by omega
   go_wp2_with (first
    |(at_builtin;refine wpList_append_own _ rfl _ _ 36 rfl w.heap.size 37 i0 (.agg #[.int .i64 0,.int .i64 0]) 2 16 Tryz.underlying36 hi hz0 hz1 hz2 rfl (by decide) _ _ _ rfl (hown.alloc _) ⟨wr.heap.size,0,none⟩ 1 1 [.int .i64 0,.int .i64 1] rfl rfl ?c1 ?c2 ?c3 ?c4 ?c5 ?_))
   case c1=>
    intro j u hj;match j,hj with
    |0,hj=>simp at hj;subst hj;simp[Addr.add]
    |1,hj=>simp at hj;subst hj;simp[Addr.add]
   case c2=>intro u hu;simp at hu;rcases hu with rfl|rfl <;> rfl
   case c3=>unfold maxLen;omega
   case c4=>omega
   case c5=>simp;omega
   intro v' w1 hown' hgrow _;have hb:=zG hns hown hnx hgrow
   have hown2:w1.ownsRow w.heap.size 37 2 v' (k+1) (zs (k+1)):=by
    rw[J8];exact hown'
   clear hown' hgrow hown;go_wp2;go_roundw
   case rel=>exact⟨k+1,by omega,by go_num,hown2,hb⟩
   case measure=>simp[intOf];omega
  ·obtain rfl:k=n:=by omega
   have i1:¬((k:Int) < (k:Int)):=by omega
   go_wp2;go_ret;exact⟨_,rfl,hown,hnx⟩
def IR(w:World)(v:Value)(l:List (Int×Int)):Prop:=∃a cap,v=.slice a l.length cap/\(l.length=0∨∃b o,a=some ⟨b,o,none⟩/\∀j,j < l.length->
 w.cell? ⟨b,o+j*2,none⟩=some (.int .i64 (l.getD j (0,0)).1)/\w.cell? ⟨b,o+j*2+1,none⟩=some (.int .i64 (l.getD j (0,0)).2))
def rcs(l:List (Int×Int)):List Value:=l.flatMap fun p=>[.int .i64 p.1,.int .i64 p.2]
theorem qCV(l:List (Int×Int))(k:Nat)(h:k < l.length):rcs (l.take (k+1))=rcs (l.take k)++[.int .i64 (l.getD k (0,0)).1,.int .i64 (l.getD k (0,0)).2]:=by
 unfold rcs;rw[tA,gE h,gD,gE h];simp only[Option.toList_some,List.flatMap_append,List.flatMap_cons,List.flatMap_nil,List.append_nil,Option.getD_some]
theorem qB{w':World}{v:Value}(h:w.ownsRow B e s v n xs)(hb:Bl w w'):w'.ownsRow B e s v n xs:=by
 obtain⟨h1,h2⟩:=h;refine⟨h1,?_⟩;rcases h2 with h2|⟨g,cap,cur,hv,hg,hc,hr⟩
 ·exact Or.inl h2
 ·refine Or.inr ⟨g,cap,cur,hv,hg,?_,hr⟩
  rw[hb.block g (by
   rcases Nat.lt_or_ge g w.heap.size with h3|h3
   ·exact h3
   ·rw[Array.getElem?_eq_none h3]at hc;cases hc)]
  exact hc
theorem Ua(w:World)(v:Value)(l:List (Int×Int))(h:IR w v l)(hl:l.length<=1000)
 (hp:∀j,j < l.length->(-1000000<=(l.getD j (0,0)).1/\(l.getD j (0,0)).1<=1000000)/\(-1000000<=(l.getD j (0,0)).2/\(l.getD j (0,0)).2<=1000000)):
 Cl 94 #[v] w fun e w'=>∃v,e=.returned v/\w'.ownsRow w.heap.size 37 2 v l.length (rcs l)/\Bl w w':=by
 obtain⟨i0,hi,hz0,hz1,hz2⟩:=info_parts Tryz.infoRatS;obtain⟨a,cap,rfl,hc⟩:=h;obtain⟨n,hn⟩:∃n,n=l.length:=⟨_,rfl⟩;obtain⟨out,hout⟩:∃o,o=rcs l:=⟨_,rfl⟩;rw[<-hout];rw[<-hn]at hc hl hp ⊢;have HC:=hid hc;have HP:=hid hp;have HN:=hid hn;have HO:=hid hout;clear hc hp hn hout;go_enter Tryz.func94,Tryz.ntmps94
 go_wp2_with (at_make;refine wpList_make_own _ rfl _ _ 36 rfl w.heap.size 37 i0 (.agg #[.int .i64 0,.int .i64 0]) 2 Tryz.underlying36 hi hz0 hz1 _ _ _ n rfl rfl rfl ?b2 ?b3 (nR _) ?_)
 case b2=>rw[hz2];omega
 case b3=>unfold maxLen;omega
 intro w0 hown0 hgrow0;have hb0:Bl w w0:=(bI _ _).grown hgrow0 (nR _) (fun j hj=>by cases hj);clear hgrow0;go_wp2;go_loopw [3,11] (fun v t wr=>∃k:Nat,k<=n/\t=.int .i64 k/\wr.ownsRow w.heap.size 37 2 v k (rcs (l.take k))/\Bl w wr) (fun _ t _=>n - (intOf t).toNat)
 case atStart=>exact⟨0,nZ _,rfl,hown0,hb0⟩
 case round=>
  obtain⟨k,hk,rfl,hown,hnx⟩:=hrel;have hns:=hnx.size;by_cases hkn:k < n
  ·have i1:(k:Int) < (n:Int):=by omega
   rcases HC.out with h0|⟨b,o,rfl,hcell⟩
   ·omega
   ·obtain⟨d1,d2⟩:=hcell k hkn;have c1:=(hnx.cell (p:=⟨b,o+k*2,none⟩) (bL w _ d1)).trans d1;have c2:=(hnx.cell (p:=⟨b,o+k*2+1,none⟩) (bL w _ d2)).trans d2;obtain⟨⟨p1,p2⟩,p3,p4⟩:=HP.out k hkn;have HS:=hid (qCV l k (by rw[<-HN.out];exact hkn));clear hcell d1 d2 hown0 hb0;generalize (l.getD k (0,0)).1=x at *;generalize (l.getD k (0,0)).2=y at *;go_wp2_with fail
    have hbA:Bl w (wr.alloc (.cells #[.int .i64 x,.int .i64 y] 119)):=hnx.alloc hns _;have hownA:=hown.alloc (.cells #[.int .i64 x,.int .i64 y] 119);clear hown c1 c2 hnx;generalize wr.alloc (.cells #[.int .i64 x,.int .i64 y] 119)=wa at *;refine(YJ x y wa p1 p2 p3 p4).mono ?_;rintro e w2 ⟨rfl,hb2⟩;have hownB:=qB hownA hb2;have hbB:Bl w w2:=bt hbA hb2;have hsB:=hbB.size;clear hownA hb2 hbA
    go_wp2_with (first
     |(at_builtin;refine wpList_append_own _ rfl _ _ 36 rfl w.heap.size 37 i0 (.agg #[.int .i64 0,.int .i64 0]) 2 16 Tryz.underlying36 hi hz0 hz1 hz2 rfl (by decide) _ _ _ rfl (hownB.alloc _) ⟨w2.heap.size,0,none⟩ 1 1 [.int .i64 x,.int .i64 y] rfl rfl ?c1 ?c2 ?c3 ?c4 ?c5 ?_))
    case c1=>
     intro j u hj;match j,hj with
     |0,hj=>simp at hj;subst hj;simp[Addr.add]
     |1,hj=>simp at hj;subst hj;simp[Addr.add]
    case c2=>intro u hu;simp at hu;rcases hu with rfl|rfl <;> rfl
    case c3=>unfold maxLen;omega
    case c4=>omega
    case c5=>simp;omega
    intro v' w1 hown' hgrow _;have hb:=zG hsB hownB hbB hgrow
    have hown2:w1.ownsRow w.heap.size 37 2 v' (k+1) (rcs (l.take (k+1))):=by
     rw[HS.out];exact hown'
    clear hown' hgrow hownB;go_wp2;go_roundw
    case rel=>exact⟨k+1,by omega,by go_num,hown2,hb⟩
    case measure=>simp[intOf];omega
  ·obtain rfl:k=n:=by omega
   have i1:¬((k:Int) < (k:Int)):=by omega
   rw[HN.out,tL,<-HN.out,<-HO.out]at hown;go_wp2;go_ret;exact⟨_,rfl,hown,hnx⟩
end Go.Proofs.YtjbpgdpciinlcaaGreat
