import Derived.Test.YtkaipapdlnojiaaGreatWq05
set_option maxHeartbeats 40000000
set_option maxRecDepth 1000000
namespace Go.Proofs.YtkaipapdlnojiaaGreat
open Go.RowKit
variable {q:Int}{rows:List (List Int)}{xs:List Value}{B n s:Nat}{e:TypeId}{v:Value}{w w':World}
def rowAt(rows:List (List Int))(q:Int)(j:Nat):Bool:=decide (((rows.getD j []).length:Int)=q)&&(decide (j=0)||decide (cmpL (rows.getD (j - 1) []) (rows.getD j []) < 0))
def xk(rows:List (List Int))(q:Int):Bool:=(List.range rows.length).all (rowAt rows q)
theorem jw(h:∀i,i < rows.length->rowAt rows q i=true):xk rows q=true:=by
 unfold xk;rw[bY];intro i hi;exact h i (by simpa using hi)
theorem Qq{j:Nat}(I:j < rows.length)(h:rowAt rows q j=false):xk rows q=false:=by
 unfold xk;rw[List.all_eq_false];exact⟨j,by simpa using I,by rw[h];decide⟩
theorem Qr(rows:List (List Int))(q:Int)(j:Nat):
 (((rows.getD j []).length:Int)≠q/\rowAt rows q j=false)∨(((rows.getD j []).length:Int)=q/\j=0/\rowAt rows q j=true)∨
 (((rows.getD j []).length:Int)=q/\0 < j/\0<=cmpL (rows.getD (j - 1) []) (rows.getD j [])/\rowAt rows q j=false)∨(((rows.getD j []).length:Int)=q/\0 < j/\cmpL (rows.getD (j - 1) []) (rows.getD j []) < 0/\rowAt rows q j=true):=by
 unfold rowAt;generalize ((rows.getD j []).length:Int)=x;generalize cmpL (rows.getD (j - 1) []) (rows.getD j [])=y;by_cases I:x=q
 ·right;by_cases K:j=0
  ·left;refine⟨I,K,?_⟩;simp[K,I]
  ·right;by_cases M:y < 0
   ·right;refine⟨I,Oo,M,?_⟩;simp[I];omega
   ·left;refine⟨I,Oo,Oo,?_⟩;simp[I];omega
 ·left;exact⟨I,by simp[I]⟩
theorem ki(w:World)(vr:Value)(rows:List (List Int))(q:Int)(h:ISS w vr rows)(hl:zS rows):
 Cl 100 #[vr,.int .i64 q] w λe w'=>e=.returned (.bool (xk rows q))/\w'=w:=by
 obtain⟨a,cap,rfl,hc⟩:=h;obtain⟨a7,a3⟩:=hl;obtain⟨n,hn⟩:∃n,n=rows.length:=⟨_,rfl⟩;obtain⟨res,K⟩:∃r,r=xk rows q:=⟨_,rfl⟩;rw[<-K];rw[<-hn]at hc a7 ⊢;have HR:=hid K;have HC:=hid hc;have HN:=hid hn;have HL:=hid a3;clear hc hn K a3;go_enter Tryz.func100,Tryz.ntmps100
 go_wp2;go_loop [9] (λt=>∃j:Nat,j<=n/\t=.int .i64 j/\Hid (∀i,i < j->rowAt rows q i=true)) (λt=>n - (intOf t).toNat)
 case atStart=>exact⟨0,nZ _,rfl,hid (λi hi=>Oo)⟩
 case round=>
  obtain⟨j,hj,rfl,O⟩:=hrel;by_cases a4:j < n
  ·have i1:(j:Int) < (n:Int):=Oo;rcases HC.out with h0|⟨b,o,rfl,I⟩
   ·omega
   ·obtain⟨u,c1,hu⟩:=I j a4;have a8:=Qr rows q j;have fin:rowAt rows q j=false->Hid (res=false):=λe=>HR.out.trans (Qq (by rw[<-HN.out];exact a4) e)
    have nxt:rowAt rows q j=true->Hid (∀i,i < j+1->rowAt rows q i=true):=λe i hi=>by
     by_cases e2:i=j
     ·rw[e2];exact e
     ·exact O.out i Oo
    have hp:0 < j->∃u',w.cell? ⟨b,o+(j - 1),none⟩=some u'/\IS w u' (rows.getD (j - 1) []):=λe=>I (j - 1) Oo;have HU:=hid hu;have hm:=HL.out j;obtain⟨a1,a5,rfl,-⟩:=hu;clear I O;rcases a8 with ⟨h1,V⟩|⟨h1,V,h3⟩|⟨h1,V,h3,h4⟩|⟨h1,V,h3,h4⟩
    ·have U:=fin V;clear hp fin nxt V;generalize (rows.getD j []).length=m at *;go_wp2;go_ret;exact⟨qI (by rw[U.out]),rfl⟩
    ·have U:=nxt h3;subst V;have b0:w.cell? ⟨b,o,none⟩=some (.slice a1 (rows.getD 0 []).length a5):=by simpa using c1
     clear hp fin nxt h3 HU;generalize (rows.getD 0 []).length=m at *;subst h1;go_wp2;go_round
     case rel=>exact⟨0+1,Oo,Gg,U⟩
     case measure=>simp[intOf];omega
    ·have U:=fin h4;obtain⟨u',c2,M⟩:=hp V;have HK:=hid (yr w u' _ (rows.getD (j - 1) []) (rows.getD j []) M HU.out (HL.out (j - 1)) hm);obtain⟨a2,a6,rfl,-⟩:=M;have i3:(0:Int) < (j:Int):=Oo;have i4:((j:Int) - 1).toNat=j - 1:=Oo;clear hp fin nxt h4 HU;generalize cmpL (rows.getD (j - 1) []) (rows.getD j [])=y at *;generalize (rows.getD j []).length=m at *;generalize (rows.getD (j - 1) []).length=m' at *;subst h1;go_wp2_with (first|(go_at_call 119;refine HK.out.mono ?_;rintro e w' ⟨rfl,a9⟩;subst w'))
     go_ret;exact⟨qI (by rw[U.out]),rfl⟩
    ·have U:=nxt h4;obtain⟨u',c2,M⟩:=hp V;have HK:=hid (yr w u' _ (rows.getD (j - 1) []) (rows.getD j []) M HU.out (HL.out (j - 1)) hm);obtain⟨a2,a6,rfl,-⟩:=M;have i3:(0:Int) < (j:Int):=Oo;have i4:((j:Int) - 1).toNat=j - 1:=Oo;clear hp fin nxt h4 HU;generalize cmpL (rows.getD (j - 1) []) (rows.getD j [])=y at *;generalize (rows.getD j []).length=m at *;generalize (rows.getD (j - 1) []).length=m' at *;subst h1;have i5:¬(0<=y):=Oo;go_wp2_with (first|(go_at_call 119;refine HK.out.mono ?_;rintro e w' ⟨rfl,a9⟩;subst w'))
     go_round
     case rel=>exact⟨j+1,Oo,Gg,U⟩
     case measure=>simp[intOf];omega
  ·obtain rfl:j=n:=Oo;have U:Hid (res=true):=HR.out.trans (jw (λi hi=>O.out i (by rw[HN.out];exact hi)));have i1:¬((j:Int) < (j:Int)):=Oo;clear O;go_wp2;go_ret;exact⟨qI (by rw[U.out]),rfl⟩
theorem kl(w:World)(vr:Value)(rows:List (List Int))(q:Int)(h:ISS w vr rows)(hl:zS rows):
 Cl 48 #[vr,.int .i64 q] w λe w'=>e=.returned (.bool (xk rows q))/\∃q,w'=w.drewN q:=by
 obtain⟨a,cap,rfl,hc⟩:=h;obtain⟨a7,a3⟩:=hl;obtain⟨n,hn⟩:∃n,n=rows.length:=⟨_,rfl⟩;obtain⟨res,K⟩:∃r,r=xk rows q:=⟨_,rfl⟩;rw[<-K];rw[<-hn]at hc a7 ⊢;have HR:=hid K;have HC:=hid hc;have HN:=hid hn;have HL:=hid a3;clear hc hn K a3;go_enter Tryz.func48,Tryz.ntmps48
 go_wp2;go_loopw [9] (λt wr=>∃j:Nat,j<=n/\t=.int .i64 j/\Hid (∃k,wr=w.drewN k)/\Hid (∀i,i < j->rowAt rows q i=true)) (λt _=>n - (intOf t).toNat)
 case atStart=>exact⟨0,nZ _,rfl,hid ⟨0,rfl⟩,hid (λi hi=>Oo)⟩
 case round=>
  obtain⟨j,hj,rfl,hB,O⟩:=hrel;by_cases a4:j < n
  ·have i1:(j:Int) < (n:Int):=Oo;rcases HC.out with h0|⟨b,o,rfl,I⟩
   ·omega
   ·obtain⟨u,c1,hu⟩:∃u,wr.cell? ⟨b,o+j,none⟩=some u/\IS wr u (rows.getD j []):=by obtain⟨k,rfl⟩:=hB.out;exact I j a4
    have a8:=Qr rows q j;have fin:rowAt rows q j=false->Hid (res=false):=λe=>HR.out.trans (Qq (by rw[<-HN.out];exact a4) e)
    have nxt:rowAt rows q j=true->Hid (∀i,i < j+1->rowAt rows q i=true):=λe i hi=>by
     by_cases e2:i=j
     ·rw[e2];exact e
     ·exact O.out i Oo
    have hp:0 < j->∃u',wr.cell? ⟨b,o+(j - 1),none⟩=some u'/\IS wr u' (rows.getD (j - 1) []):=λe=>by obtain⟨k,rfl⟩:=hB.out;exact I (j - 1) Oo
    have HU:=hid hu;have hm:=HL.out j;obtain⟨a1,a5,rfl,-⟩:=hu;clear I O;rcases a8 with ⟨h1,V⟩|⟨h1,V,h3⟩|⟨h1,V,h3,h4⟩|⟨h1,V,h3,h4⟩
    ·have U:=fin V;clear hp fin nxt V;generalize (rows.getD j []).length=m at *;go_wp2;go_ret;exact⟨qI (by rw[U.out]),hB.out⟩
    ·have U:=nxt h3;subst V;have b0:wr.cell? ⟨b,o,none⟩=some (.slice a1 (rows.getD 0 []).length a5):=by simpa using c1
     clear hp fin nxt h3 HU;generalize (rows.getD 0 []).length=m at *;subst h1;go_wp2;go_roundw
     case rel=>exact⟨0+1,Oo,Gg,hB,U⟩
     case measure=>simp[intOf];omega
    ·have U:=fin h4;obtain⟨u',c2,M⟩:=hp V;have HK:=hid (zB wr u' _ (rows.getD (j - 1) []) (rows.getD j []) M HU.out (HL.out (j - 1)) hm);obtain⟨a2,a6,rfl,-⟩:=M;have i3:(0:Int) < (j:Int):=Oo;have i4:((j:Int) - 1).toNat=j - 1:=Oo;clear hp fin nxt h4 HU;generalize cmpL (rows.getD (j - 1) []) (rows.getD j [])=y at *;generalize (rows.getD j []).length=m at *;generalize (rows.getD (j - 1) []).length=m' at *;subst h1;go_wp2_with (first|(go_at_call 81;refine HK.out.mono ?_;rintro e w' ⟨rfl,q',a9⟩;subst w'))
     go_ret;exact⟨qI (by rw[U.out]),zj _ hB.out⟩
    ·have U:=nxt h4;obtain⟨u',c2,M⟩:=hp V;have HK:=hid (zB wr u' _ (rows.getD (j - 1) []) (rows.getD j []) M HU.out (HL.out (j - 1)) hm);obtain⟨a2,a6,rfl,-⟩:=M;have i3:(0:Int) < (j:Int):=Oo;have i4:((j:Int) - 1).toNat=j - 1:=Oo;clear hp fin nxt h4 HU;generalize cmpL (rows.getD (j - 1) []) (rows.getD j [])=y at *;generalize (rows.getD j []).length=m at *;generalize (rows.getD (j - 1) []).length=m' at *;subst h1;have i5:¬(0<=y):=Oo;go_wp2_with (first|(go_at_call 81;refine HK.out.mono ?_;rintro e w' ⟨rfl,q',a9⟩;subst w'))
     go_roundw
     case rel=>exact⟨j+1,Oo,Gg,hid (zj _ hB.out),U⟩
     case measure=>simp[intOf];omega
  ·obtain rfl:j=n:=Oo;have U:Hid (res=true):=HR.out.trans (jw (λi hi=>O.out i (by rw[HN.out];exact hi)));have i1:¬((j:Int) < (j:Int)):=Oo;clear O;go_wp2;go_ret;exact⟨qI (by rw[U.out]),hB.out⟩
def qj(es:List (List Int)):Bool:=decide (es.length<=7)&&es.all qL
def ql(bag:List Int)(es:List (List Int)):Bool:=bag.all λx=>es.any λe=>decide (x∈e)
theorem kH{α:Type}(p:α->Bool)(d:α)(l:List α)(h:∀i,i < l.length->p (l.getD i d)=true):l.all p=true:=by
 rw[bY];intro x K;obtain⟨j,I,e⟩:=gO K;have:=h j I;rw[gD,bC I]at this;rw[<-e];exact this
theorem yB{α:Type}(p:α->Bool)(d:α)(l:List α)(j:Nat)(I:j < l.length)(h:p (l.getD j d)=false):l.all p=false:=by
 rw[List.all_eq_false];rw[gD,bC I]at h;exact⟨_,gM I,by simpa using h⟩
theorem Q4(p:Nat->Bool)(k:Nat):(plc p k).length=0↔∀i,i < k->p i=false:=by
 unfold plc;rw[lM,List.length_eq_zero_iff,List.filter_eq_nil_iff];simp
theorem qES(x:Int)(es:List (List Int)):(es.any λe=>decide (x∈e))=!decide ((plc (λi=>decide (x∈es.getD i [])) es.length).length=0):=by
 cases hb:(es.any λe=>decide (x∈e))
 ·rw[eq_comm,Bool.not_eq_false',dE,Q4];intro i hi;rw[List.any_eq_false]at hb;have:=hb _ (gM hi);rw[gD,bC hi];simpa using this
 ·rw[eq_comm,Bool.not_eq_true',decide_eq_false_iff_not,Q4];intro I;rw[List.any_eq_true]at hb;obtain⟨e,O,K⟩:=hb;obtain⟨j,M,U⟩:=gO O;have:=I j M;rw[gD,bC M]at this;simp only[Option.getD_some,U]at this;rw[this]at K;exact Bool.noConfusion K
theorem Xi(w:World)(ve:Value)(es:List (List Int))(h:ISS w ve es)(hl:zS es):
 Cl 25 #[ve] w λe w'=>e=.returned (.bool (qj es))/\w'=w:=by
 obtain⟨a,cap,rfl,hc⟩:=h;obtain⟨a2,U⟩:=hl;obtain⟨n,hn⟩:∃n,n=es.length:=⟨_,rfl⟩;obtain⟨res,I⟩:∃r,r=qj es:=⟨_,rfl⟩;rw[<-I];rw[<-hn]at hc a2 ⊢;have HR:=hid I;have HC:=hid hc;have HN:=hid hn;have HL:=hid U;clear hc hn U I;by_cases h7:7 < n
 ·have O:Hid (res=false):=HR.out.trans (by unfold qj;rw[<-HN.out,decide_eq_false Oo];rfl);have i7:(7:Int) < (n:Int):=Oo;go_enter Tryz.func25,Tryz.ntmps25
  go_wp2;go_ret;exact⟨qI (by rw[O.out]),rfl⟩
 have i7:¬(7:Int) < (n:Int):=Oo;go_enter Tryz.func25,Tryz.ntmps25
 go_wp2;go_loop [10] (λt=>∃j:Nat,j<=n/\t=.int .i64 j/\Hid (∀i,i < j->qL (es.getD i [])=true)) (λt=>n - (intOf t).toNat)
 case atStart=>exact⟨0,nZ _,rfl,hid (λi hi=>Oo)⟩
 case round=>
  obtain⟨j,hj,rfl,M⟩:=hrel;by_cases V:j < n
  ·have i1:(j:Int) < (n:Int):=Oo;rcases HC.out with h0|⟨b,o,rfl,K⟩
   ·omega
   ·obtain⟨u,c1,hu⟩:=K j V;have HK:=hid (xj w u (es.getD j []) hu (HL.out j));obtain⟨a1,a4,rfl,-⟩:=hu
    have fin:qL (es.getD j [])=false->Hid (res=false):=λe=>HR.out.trans (by
     unfold qj;rw[yB qL [] es j (by rw[<-HN.out];exact V) e,Bool.and_false])
    have nxt:qL (es.getD j [])=true->Hid (∀i,i < j+1->qL (es.getD i [])=true):=λe i hi=>by
     by_cases e2:i=j
     ·rw[e2];exact e
     ·exact M.out i Oo
    clear K M;generalize (es.getD j []).length=m at *;generalize qL (es.getD j [])=y at *;cases y
    ·have O:=fin rfl;clear fin nxt;go_wp2_with (first|(go_at_call 24;refine HK.out.mono ?_;rintro e w' ⟨rfl,a3⟩;subst w'))
     go_ret;exact⟨qI (by rw[O.out]),rfl⟩
    ·have O:=nxt rfl;clear fin nxt;go_wp2_with (first|(go_at_call 24;refine HK.out.mono ?_;rintro e w' ⟨rfl,a3⟩;subst w'))
     go_round
     case rel=>exact⟨j+1,Oo,Gg,O⟩
     case measure=>simp[intOf];omega
  ·obtain rfl:j=n:=Oo
   have O:Hid (res=true):=HR.out.trans (by
    unfold qj;rw[<-HN.out,decide_eq_true Oo,Bool.true_and];exact kH qL [] es (λi hi=>M.out i (by rw[HN.out];exact hi)))
   have i1:¬((j:Int) < (j:Int)):=Oo;clear M;go_wp2;go_ret;exact⟨qI (by rw[O.out]),rfl⟩
theorem VI(w:World)(vb ve:Value)(bag:List Int)(es:List (List Int))(hb:IS w vb bag)(h:ISS w ve es)(a6:bag.length<=1099511627776)(hl:zS es):
 Cl 26 #[vb,ve] w λe w'=>e=.returned (.bool (ql bag es))/\Bl w w':=by
 obtain⟨a,cap,rfl,hc⟩:=hb;obtain⟨n,hn⟩:∃n,n=bag.length:=⟨_,rfl⟩;obtain⟨res,K⟩:∃r,r=ql bag es:=⟨_,rfl⟩;rw[<-K];rw[<-hn]at hc a6 ⊢;have HR:=hid K;have HC:=hid hc;have HN:=hid hn;have HE:=hid h;have HL:=hid hl;clear hc hn h hl K;go_enter Tryz.func26,Tryz.ntmps26
 go_wp2;go_loopw [9] (λt wr=>∃j:Nat,j<=n/\t=.int .i64 j/\Bl w wr/\Hid (∀i,i < j->(es.any λe=>decide (bag.getD i 0∈e))=true)) (λt _=>n - (intOf t).toNat)
 case atStart=>exact⟨0,nZ _,rfl,bM _ _,hid (λi hi=>Oo)⟩
 case round=>
  obtain⟨j,hj,rfl,M,U⟩:=hrel;by_cases a4:j < n
  ·have i1:(j:Int) < (n:Int):=Oo;rcases HC.out with h0|⟨b,o,rfl,O⟩
   ·omega
   ·have c0:=O j a4;have c1:wr.cell? ⟨b,o+j,none⟩=some (.int .i64 (bag.getD j 0)):=(M.cell (p:=⟨b,o+j,none⟩) (bL w _ c0)).trans c0;have HK:=hid (yi wr ve (bag.getD j 0) es (HE.out.below M) HL.out);have I:=qES (bag.getD j 0) es
    have fin:(es.any λe=>decide (bag.getD j 0∈e))=false->Hid (res=false):=λe=>HR.out.trans (by
     unfold ql;exact yB (λx=>es.any λe=>decide (x∈e)) 0 bag j (by rw[<-HN.out];exact a4) e)
    have nxt:(es.any λe=>decide (bag.getD j 0∈e))=true->Hid (∀i,i < j+1->(es.any λe=>decide (bag.getD i 0∈e))=true):=λe i hi=>by
     by_cases e2:i=j
     ·rw[e2];exact e
     ·exact U.out i Oo
    have hlen:=xK (λi=>decide (bag.getD j 0∈es.getD i [])) es.length;have a7:=HL.out.1;clear O U c0;generalize bag.getD j 0=x at *;generalize plc (λi=>decide (x∈es.getD i [])) es.length=pl at *;generalize (es.any λe=>decide (x∈e))=y at *;obtain⟨m,hm⟩:∃m,m=pl.length:=⟨_,rfl⟩;rw[<-hm]at I hlen HK;have a9:m<=1099511627776:=Oo;clear hlen a7 hm;cases y
    ·have hf:=fin rfl;have a2:m=0:=by simpa using I
     clear fin nxt I;subst a2;go_wp2_with (first|(go_at_call 51;refine HK.out.mono ?_;rintro e w' ⟨v,rfl,⟨a8,(⟨rfl,V⟩|⟨g,a5,cur,rfl,V⟩)⟩,a3⟩))
     all_goals go_ret
     all_goals exact⟨qI (by rw[hf.out]),bt M a3⟩
    ·have hf:=nxt rfl;have a2:m≠0:=by simpa using I
     have b0:¬((m:Int)=0):=Oo;clear fin nxt I;go_wp2_with (first|(go_at_call 51;refine HK.out.mono ?_;rintro e w' ⟨v,rfl,⟨a8,(⟨rfl,V⟩|⟨g,a5,cur,rfl,V⟩)⟩,a3⟩))
     ·exact absurd V a2
     go_roundw
     case rel=>exact⟨j+1,Oo,Gg,bt M a3,hf⟩
     case measure=>simp[intOf];omega
  ·obtain rfl:j=n:=Oo
   have hf:Hid (res=true):=HR.out.trans (by
    unfold ql;exact kH (λx=>es.any λe=>decide (x∈e)) 0 bag (λi hi=>U.out i (by rw[HN.out];exact hi)))
   have i1:¬((j:Int) < (j:Int)):=Oo;clear U;go_wp2;go_ret;exact⟨qI (by rw[hf.out]),M⟩
theorem Tryz.infoRatS:(Tryz.prog.info? 28).map (λi=>(i.zero,i.size,i.bytes))=some (some (.agg #[.int .i64 0,.int .i64 0]),2,16):=by kernel_rfl
def zs(k:Nat):List Value:=(List.replicate k [Value.int .i64 0,Value.int .i64 1]).flatten
theorem YN(k:Nat):zs (k+1)=zs k++[.int .i64 0,.int .i64 1]:=by
 simp[zs,List.replicate_succ',List.flatten_append]
theorem qe{wr w1:World}{u:Value}{o:Obj}(hB:B<=wr.heap.size)
 (K:wr.ownsRow B e s u n xs) (M:Below B w wr) (I:(wr.alloc o).grownBy w1 u.ownBlock):Below B w w1:=
 (M.alloc hB o).grown I (by simp;omega) (λj O=>(K.lt j O).1)
theorem kh(w:World)(n:Nat)(hn:n<=1000):
 Cl 17 #[.int .i64 n] w λe w'=>∃v,e=.returned v/\w'.ownsRow w.heap.size 28 2 v n (zs n)/\Bl w w':=by
 obtain⟨i0,hi,a2,a3,a4⟩:=info_parts Tryz.infoRatS;go_enter Tryz.func17,Tryz.ntmps17
 go_wp2;go_loopw [3,4] (λv t wr=>∃k:Nat,k<=n/\t=.int .i64 k/\wr.ownsRow w.heap.size 28 2 v k (zs k)/\Bl w wr) (λ_ t _=>n - (intOf t).toNat)
 case atStart=>exact⟨0,nZ _,rfl,oM w #[] 0 (bK _) Dd rfl,(bM _ _).alloc (bK _) _⟩
 case round=>
  obtain⟨k,hk,rfl,I,O⟩:=hrel;have a5:=O.size;by_cases a6:k < n
  ·have i1:(k:Int) < (n:Int):=Oo
   go_wp2_with (first
    |(at_builtin;refine wpList_append_own _ rfl _ _ 26 rfl w.heap.size 28 i0 (.agg #[.int .i64 0,.int .i64 0]) 2 16 Tryz.underlying26 hi a2 a3 a4 rfl Dd _ _ _ rfl (I.alloc _) ⟨wr.heap.size,0,none⟩ 1 1 [.int .i64 0,.int .i64 1] rfl rfl ?c1 ?c2 ?c3 ?c4 ?c5 ?_))
   case c1=>
    intro j u U;match j,U with
    |0,U=>simp at U;subst U;simp[Addr.add]
    |1,U=>simp at U;subst U;simp[Addr.add]
   case c2=>intro u hu;simp at hu;rcases hu with rfl|rfl <;> rfl
   case c3=>unfold maxLen;omega
   case c4=>omega
   case c5=>simp;omega
   intro v' w1 K M _;have hb:=qe a5 I O M
   have V:w1.ownsRow w.heap.size 28 2 v' (k+1) (zs (k+1)):=by
    rw[YN];exact K
   clear K M I;go_wp2;go_roundw
   case rel=>exact⟨k+1,Oo,Gg,V,hb⟩
   case measure=>simp[intOf];omega
  ·obtain rfl:k=n:=Oo;have i1:¬((k:Int) < (k:Int)):=Oo;go_wp2;go_ret;exact⟨_,rfl,I,O⟩
def IR(w:World)(v:Value)(l:List (Int×Int)):Prop:=∃a cap,v=.slice a l.length cap/\(l.length=0∨∃b o,a=some ⟨b,o,none⟩/\∀j,j < l.length->
 w.cell? ⟨b,o+j*2,none⟩=some (.int .i64 (l.getD j (0,0)).1)/\w.cell? ⟨b,o+j*2+1,none⟩=some (.int .i64 (l.getD j (0,0)).2))
def rcs(l:List (Int×Int)):List Value:=l.flatMap λp=>[.int .i64 p.1,.int .i64 p.2]
theorem qDe(l:List (Int×Int))(k:Nat)(h:k < l.length):rcs (l.take (k+1))=rcs (l.take k)++[.int .i64 (l.getD k (0,0)).1,.int .i64 (l.getD k (0,0)).2]:=by
 unfold rcs;rw[tA,bC h,gD,bC h];simp only[Option.toList_some,List.flatMap_append,List.flatMap_cons,List.flatMap_nil,List.append_nil,Option.getD_some]
theorem qB(h:w.ownsRow B e s v n xs)(hb:Bl w w'):w'.ownsRow B e s v n xs:=by
 obtain⟨O,I⟩:=h;refine⟨O,?_⟩;rcases I with I|⟨g,cap,cur,hv,U,K,hr⟩
 ·exact Or.inl I
 ·refine Or.inr ⟨g,cap,cur,hv,U,?_,hr⟩
  rw[hb.block g (by
   rcases Nat.lt_or_ge g w.heap.size with M|M
   ·exact M
   ·rw[Array.getElem?_eq_none M]at K;cases K)]
  exact K
theorem JE(w:World)(v:Value)(l:List (Int×Int))(h:IR w v l)(hl:l.length<=1000)
 (hp:∀j,j < l.length->(-1000000<=(l.getD j (0,0)).1/\(l.getD j (0,0)).1<=1000000)/\(-1000000<=(l.getD j (0,0)).2/\(l.getD j (0,0)).2<=1000000)):
 Cl 27 #[v] w λe w'=>∃v,e=.returned v/\w'.ownsRow w.heap.size 28 2 v l.length (rcs l)/\Bl w w':=by
 obtain⟨i0,hi,a9,b0,b7⟩:=info_parts Tryz.infoRatS;obtain⟨a,cap,rfl,hc⟩:=h;obtain⟨n,hn⟩:∃n,n=l.length:=⟨_,rfl⟩;obtain⟨out,U⟩:∃o,o=rcs l:=⟨_,rfl⟩;rw[<-U];rw[<-hn]at hc hl hp ⊢;have HC:=hid hc;have HP:=hid hp;have HN:=hid hn;have HO:=hid U;clear hc hp hn U;go_enter Tryz.func27,Tryz.ntmps27
 go_wp2_with (at_make;refine wpList_make_own _ rfl _ _ 26 rfl w.heap.size 28 i0 (.agg #[.int .i64 0,.int .i64 0]) 2 Tryz.underlying26 hi a9 b0 _ _ _ n rfl rfl rfl ?b2 ?b3 (bK _) ?_)
 case b2=>rw[b7];omega
 case b3=>unfold maxLen;omega
 intro w0 V K;have b9:Bl w w0:=(bM _ _).grown K (bK _) (λj hj=>by cases hj);clear K;go_wp2;go_loopw [3,11] (λv t wr=>∃k:Nat,k<=n/\t=.int .i64 k/\wr.ownsRow w.heap.size 28 2 v k (rcs (l.take k))/\Bl w wr) (λ_ t _=>n - (intOf t).toNat)
 case atStart=>exact⟨0,nZ _,rfl,V,b9⟩
 case round=>
  obtain⟨k,hk,rfl,M,O⟩:=hrel;have c9:=O.size;by_cases a6:k < n
  ·have i1:(k:Int) < (n:Int):=Oo;rcases HC.out with h0|⟨b,o,rfl,a2⟩
   ·omega
   ·obtain⟨d1,d2⟩:=a2 k a6;have c1:=(O.cell (p:=⟨b,o+k*2,none⟩) (bL w _ d1)).trans d1;have c2:=(O.cell (p:=⟨b,o+k*2+1,none⟩) (bL w _ d2)).trans d2;obtain⟨⟨p1,p2⟩,p3,p4⟩:=HP.out k a6;have HS:=hid (qDe l k (by rw[<-HN.out];exact a6));clear a2 d1 d2 V b9;generalize (l.getD k (0,0)).1=x at *;generalize (l.getD k (0,0)).2=y at *;go_wp2_with fail
    have c7:Bl w (wr.alloc (.cells #[.int .i64 x,.int .i64 y] 66)):=O.alloc c9 _;have a3:=M.alloc (.cells #[.int .i64 x,.int .i64 y] 66);clear M c1 c2 O;generalize wr.alloc (.cells #[.int .i64 x,.int .i64 y] 66)=wa at *;refine(Ys x y wa p1 p2 p3 p4).mono ?_;rintro e w2 ⟨rfl,a7⟩;have I:=qB a3 a7;have c8:Bl w w2:=bt c7 a7;have d0:=c8.size;clear a3 a7 c7
    go_wp2_with (first
     |(at_builtin;refine wpList_append_own _ rfl _ _ 26 rfl w.heap.size 28 i0 (.agg #[.int .i64 0,.int .i64 0]) 2 16 Tryz.underlying26 hi a9 b0 b7 rfl Dd _ _ _ rfl (I.alloc _) ⟨w2.heap.size,0,none⟩ 1 1 [.int .i64 x,.int .i64 y] rfl rfl ?c1 ?c2 ?c3 ?c4 ?c5 ?_))
    case c1=>
     intro j u hj;match j,hj with
     |0,hj=>simp at hj;subst hj;simp[Addr.add]
     |1,hj=>simp at hj;subst hj;simp[Addr.add]
    case c2=>intro u hu;simp at hu;rcases hu with rfl|rfl <;> rfl
    case c3=>unfold maxLen;omega
    case c4=>omega
    case c5=>simp;omega
    intro v' w1 a4 a5 _;have hb:=qe d0 I c8 a5
    have a8:w1.ownsRow w.heap.size 28 2 v' (k+1) (rcs (l.take (k+1))):=by
     rw[HS.out];exact a4
    clear a4 a5 I;go_wp2;go_roundw
    case rel=>exact⟨k+1,Oo,Gg,a8,hb⟩
    case measure=>simp[intOf];omega
  ·obtain rfl:k=n:=Oo;have i1:¬((k:Int) < (k:Int)):=Oo;rw[HN.out,tL,<-HN.out,<-HO.out]at M;go_wp2;go_ret;exact⟨_,rfl,M,O⟩
theorem qA(h:w.ownsRow B e s v n xs)(hb:∀g,v.ownBlock=some g->w'.heap[g]?=w.heap[g]?):w'.ownsRow B e s v n xs:=by
 obtain⟨M,I⟩:=h;refine⟨M,?_⟩;rcases I with I|⟨g,cap,cur,rfl,K,O,hr⟩
 ·exact Or.inl I
 ·exact Or.inr ⟨g,cap,cur,rfl,K,(hb g rfl).trans O,hr⟩
theorem qK{l:List Int}(h:w.ownsRow B 3 1 v l.length (l.map (Value.int .i64))):IS w v l:=by
 rcases h.2 with ⟨rfl,I⟩|⟨g,cap,cur,rfl,M,O,hr⟩
 ·exact⟨none,0,by rw[I],Or.inl I⟩
 ·refine⟨_,cap,rfl,Or.inr ⟨g,0,rfl,λj K=>?_⟩⟩;rw[Nat.zero_add,h.cellAt j Oo,bN,bC K,gD,bC K];rfl
end Go.Proofs.YtkaipapdlnojiaaGreat
