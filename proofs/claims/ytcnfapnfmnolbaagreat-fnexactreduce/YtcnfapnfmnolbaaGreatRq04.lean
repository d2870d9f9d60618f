import Derived.Test.YtcnfapnfmnolbaaGreatRq03
set_option maxHeartbeats 40000000
set_option maxRecDepth 1000000
namespace Go.Proofs.YtcnfapnfmnolbaaGreat
open Go.RowKit
variable {a b:LI}{j n:Nat}{p:Nat->Bool}
def zX(es:LL):Bool:=decide (es.length<=7)&&es.all qV
def x9(bag:LI)(es:LL):Bool:=bag.all λx=>es.any λe=>decide (x∈e)
theorem uC{α:Type}(p:α->Bool)(d:α)(l:List α)(h:∀i,i<l.length->p (l.getD i d)=true):l.all p=true:=by
 rw[aT];intro x K;obtain⟨j,I,e⟩:=gO K;have:=h j I;rw[gD,gE I]at this;rw[<-e];exact this
theorem xH{α:Type}(p:α->Bool)(d:α)(l:List α)(j:Nat)(I:j<l.length)(h:p (l.getD j d)=false):l.all p=false:=by
 rw[List.all_eq_false];rw[gD,gE I]at h;exact⟨_,gM I,by simpa using h⟩
theorem Zr(p:Nat->Bool)(k:Nat):(plc p k).length=0↔∀i,i<k->p i=false:=by
 unfold plc;rw[lM,List.length_eq_zero_iff,List.filter_eq_nil_iff];simp
theorem qA4(x:Int)(es:LL):(es.any λe=>decide (x∈e))=!decide ((plc (λi=>decide (x∈es.getD i [])) es.length).length=0):=by
 cases hb:(es.any λe=>decide (x∈e))
 rw[eq_comm,Bool.not_eq_false',dE,Zr];intro i hi;rw[List.any_eq_false]at hb;have:=hb _ (gM hi);rw[gD,gE hi];simpa using this;rw[eq_comm,Bool.not_eq_true',decide_eq_false_iff_not,Zr];intro I;rw[List.any_eq_true]at hb;obtain⟨e,O,K⟩:=hb;obtain⟨j,M,U⟩:=gO O;have:=I j M;rw[gD,gE M]at this;simp only[Option.getD_some,U]at this;rw[this]at K;exact Bool.noConfusion K
theorem j9(w:World)(ve:Value)(es:LL)(h:ISS w ve es)(hl:qT es):
 Cl 94 #[ve] w λe w'=>e=.returned (.bool (zX es))/\w'=w:=by
 obtain⟨a,cap,rfl,hc⟩:=h;obtain⟨a3,U⟩:=hl;obtain⟨n,hn⟩:=Ex es.length;obtain⟨res,I⟩:=Ex (zX es);rw[<-I];rw[<-hn]at hc a3 ⊢;have HR:=ay I;have HC:=ay hc;have HN:=ay hn;have HL:=ay U;clear hc hn U I;by_cases h7:7<n
 ·have O:Hh (res=false):=HR.o.trans (by unfold zX;rw[<-HN.o,decide_eq_false Oo];rfl);have i7:(7:Int)<(n:Int):=Oo;go_enter Tryz.func94,Tryz.ntmps94;go_wp2;go_ret;exact⟨qK (by rw[O.o]),rfl⟩
 have i7:¬(7:Int)<(n:Int):=Oo;go_enter Tryz.func94,Tryz.ntmps94;go_wp2;go_loop [10] (λt=>∃j:Nat,j<=n/\t=ai j/\Hh (∀i,i<j->qV (es.getD i [])=true)) (λt=>n-(intOf t).toNat);exact⟨0,nZ _,rfl,ay (λi hi=>Oo)⟩;obtain⟨j,hj,rfl,M⟩:=hrel;by_cases V:j<n
 ·have i1:(j:Int)<(n:Int):=Oo;rcases HC.o with h0|⟨b,o,rfl,K⟩;omega;obtain⟨u,c1,hu⟩:=K j V;have HK:=ay (zd w u (es.getD j []) hu (HL.o j));obtain⟨a1,a5,rfl,-⟩:=hu;have fin:qV (es.getD j [])=false->Hh (res=false):=λe=>HR.o.trans (by
   unfold zX;rw[xH qV [] es j (by rw[<-HN.o];exact V) e,Bool.and_false])
  have nxt:qV (es.getD j [])=true->Hh (∀i,i<j+1->qV (es.getD i [])=true):=λe i hi=>by
   by_cases e2:i=j;rw[e2];exact e;exact M.o i Oo
  clear K M;generalize (es.getD j []).length=m at *;generalize qV (es.getD j [])=y at *;cases y
  ·have O:=fin rfl;clear fin nxt;go_wp2_with (first|(go_at_call 97;refine HK.o.mono ?_;rintro e w' ⟨rfl,a4⟩;subst w'));go_ret;exact⟨qK (by rw[O.o]),rfl⟩
  have O:=nxt rfl;clear fin nxt;go_wp2_with (first|(go_at_call 97;refine HK.o.mono ?_;rintro e w' ⟨rfl,a4⟩;subst w'));go_round;exact⟨j+1,Oo,Gg,O⟩;exact Im
 obtain rfl:j=n:=Oo;have O:Hh (res=true):=HR.o.trans (by
  unfold zX;rw[<-HN.o,decide_eq_true Oo,Bool.true_and];exact uC qV [] es (λi hi=>M.o i (by rw[HN.o];exact hi)))
 have i1:¬((j:Int)<(j:Int)):=Oo;clear M;go_wp2;go_ret;exact⟨qK (by rw[O.o]),rfl⟩
theorem UF(w:World)(vb ve:Value)(bag:LI)(es:LL)(hb:IS w vb bag)(h:ISS w ve es)(a7:bag.length<=1099511627776)(hl:qT es):
 Cl 119 #[vb,ve] w λe w'=>e=.returned (.bool (x9 bag es))/\Bl w w':=by
 obtain⟨a,cap,rfl,hc⟩:=hb;obtain⟨n,hn⟩:=Ex bag.length;obtain⟨res,K⟩:=Ex (x9 bag es);rw[<-K];rw[<-hn]at hc a7 ⊢;have HR:=ay K;have HC:=ay hc;have HN:=ay hn;have HE:=ay h;have HL:=ay hl;clear hc hn h hl K;go_enter Tryz.func119,Tryz.ntmps119;go_wp2;go_loopw [9] (λt wr=>∃j:Nat,j<=n/\t=ai j/\Bl w wr/\Hh (∀i,i<j->(es.any λe=>decide (bag.getD i 0∈e))=true)) (λt _=>n-(intOf t).toNat);exact⟨0,nZ _,rfl,bJ _ _,ay (λi hi=>Oo)⟩;obtain⟨j,hj,rfl,M,U⟩:=hrel;by_cases a5:j<n
 ·have i1:(j:Int)<(n:Int):=Oo;rcases HC.o with h0|⟨b,o,rfl,O⟩;omega;have c0:=O j a5;have c1:wr.cell? (az b (o+j))=some (ai (bag.getD j 0)):=(M.cell (p:=(az b (o+j))) (bL w _ c0)).trans c0;have HK:=ay (yG wr ve (bag.getD j 0) es (HE.o.below M) HL.o);have I:=qA4 (bag.getD j 0) es;have fin:(es.any λe=>decide (bag.getD j 0∈e))=false->Hh (res=false):=λe=>HR.o.trans (by
   unfold x9;exact xH (λx=>es.any λe=>decide (x∈e)) 0 bag j (by rw[<-HN.o];exact a5) e)
  have nxt:(es.any λe=>decide (bag.getD j 0∈e))=true->Hh (∀i,i<j+1->(es.any λe=>decide (bag.getD i 0∈e))=true):=λe i hi=>by
   by_cases e2:i=j;rw[e2];exact e;exact U.o i Oo
  have hlen:=xp (λi=>decide (bag.getD j 0∈es.getD i [])) es.length;have a8:=HL.o.1;clear O U c0;generalize bag.getD j 0=x at *;generalize plc (λi=>decide (x∈es.getD i [])) es.length=pl at *;generalize (es.any λe=>decide (x∈e))=y at *;obtain⟨m,hm⟩:=Ex pl.length;rw[<-hm]at I hlen HK;have b0:m<=1099511627776:=Oo;clear hlen a8 hm;cases y
  ·have hf:=fin rfl;have a3:m=0:=by simpa using I
   clear fin nxt I;subst a3;go_wp2_with (first|(go_at_call 96;refine HK.o.mono ?_;rintro e w' ⟨v,rfl,⟨a9,(⟨rfl,V⟩|⟨g,a6,cur,rfl,V⟩)⟩,a4⟩));all_goals go_ret
   all_goals exact⟨qK (by rw[hf.o]),bt M a4⟩
  have hf:=nxt rfl;have a3:m≠0:=by simpa using I
  have b1:¬((m:Int)=0):=Oo;clear fin nxt I;go_wp2_with (first|(go_at_call 96;refine HK.o.mono ?_;rintro e w' ⟨v,rfl,⟨a9,(⟨rfl,V⟩|⟨g,a6,cur,rfl,V⟩)⟩,a4⟩));exact absurd V a3;go_roundw;exact⟨j+1,Oo,Gg,bt M a4,hf⟩;exact Im
 obtain rfl:j=n:=Oo;have hf:Hh (res=true):=HR.o.trans (by
  unfold x9;exact uC (λx=>es.any λe=>decide (x∈e)) 0 bag (λi hi=>U.o i (by rw[HN.o];exact hi)))
 have i1:¬((j:Int)<(j:Int)):=Oo;clear U;go_wp2;go_ret;exact⟨qK (by rw[hf.o]),M⟩
def zf(k:Int)(l:LI):Bool:=decide (l.length=0)||decide (l.getD (l.length-1) 0<k)
def zZ(es:LL)(x:Int):Bool:=es.any λe=>decide (x∈e)
def zg(k:Int)(es:LL):Bool:=decide (0<=k)&&decide (k<=6)&&zX es&&es.all (zf k)&&(List.range k.toNat).all λv=>zZ es (v:Int)
def za(k:Int)(b:LI):Bool:=!decide (b.length=0)&&qV b&&zf k b
def yH(k:Int)(bags:LL):Bool:=decide (bags.length<=12)&&bags.all (za k)
def yc(n:Int)(ps:LI)(i:Nat):Bool:=decide (ps.getD i 0=-1)||(decide ((i:Int)<ps.getD i 0)&&decide (ps.getD i 0<n))
def zw(ps:LI)(n:Int):Bool:=decide ((ps.length:Int)=n)&&(List.range ps.length).all (yc n ps)
theorem qJ{w w':World}{a:Addr}{v:Value}(hb:Bl w w')(h:w.cell? a=some v):w'.cell? a=some v:=
 (hb.cell (bL w _ h)).trans h
theorem qf(I:j<n)(h:p j=false):(List.range n).all p=false:=by
 rw[List.all_eq_false];exact⟨j,by simpa using I,by rw[h];decide⟩
theorem qh(h:∀i,i<n->p i=true):(List.range n).all p=true:=by
 rw[aT];intro i hi;exact h i (by simpa using hi)
theorem QP(w:World)(v:Value)(l:LI)(k:Int)(h:IS w v l)(hl:l.length<=1099511627776):
 Cl 95 #[v,ai k] w λe w'=>e=.returned (.bool (zf k l))/\w'=w:=by
 obtain⟨a,cap,rfl,U⟩:=h;obtain⟨res,I⟩:=Ex (zf k l);rw[<-I];rcases Nat.eq_zero_or_pos l.length with M|V
 ·have O:res=true:=by rw[I];simp[zf,M]
  subst O;rw[M];clear U I;go_enter Tryz.func95,Tryz.ntmps95;go_wp2;go_ret;exact⟨rfl,rfl⟩
 rcases U with M|⟨b,o,rfl,K⟩;omega;have c1:=K (l.length-1) Oo;have O:Hh (res=decide (l.getD (l.length-1) 0<k)):=by
  show res=_;rw[I];unfold zf;rw[decide_eq_false Oo,Bool.false_or]
 have i4:((l.length:Int)-1).toNat=l.length-1:=Oo;have d1:¬((l.length:Int)=0):=Oo;clear K I;generalize l.getD (l.length-1) 0=y at *;generalize l.length=n at *;go_enter Tryz.func95,Tryz.ntmps95;go_wp2;go_ret;exact⟨qK (by rw[O.o,show((n:Int) == 0)=false by simp;omega,Bool.false_or]),rfl⟩
theorem YD(w:World)(ve:Value)(k:Int)(es:LL)(h:ISS w ve es)(hl:qT es):
 Cl 66 #[ai k,ve] w λe w'=>e=.returned (.bool (zg k es))/\Bl w w':=by
 have KE:=ay (j9 w ve es h hl);have HE:=ay h;obtain⟨a,cap,rfl,hc⟩:=h;obtain⟨b0,a4⟩:=hl;have HS:Hh (qT es):=ay ⟨b0,a4⟩;obtain⟨res,M⟩:=Ex (zg k es);rw[<-M];have HR:=ay M;have HC:=ay hc;have HL:=ay a4;clear hc a4 M;by_cases a5:k<0
 ·have U:res=false:=by rw[HR.o];unfold zg;rw[decide_eq_false Oo];simp
  subst U;go_enter Tryz.func66,Tryz.ntmps66;go_wp2_with fail;go_ret;exact⟨rfl,bJ _ _⟩
 by_cases b1:6<k
 ·have U:res=false:=by rw[HR.o];unfold zg;rw[decide_eq_false (by omega:¬k<=6)];simp
  subst U;have d1:¬(k<0):=a5;go_enter Tryz.func66,Tryz.ntmps66;go_wp2_with fail;go_ret;exact⟨rfl,bJ _ _⟩
 have d1:¬(k<0):=a5;have d2:¬(6<k):=b1;cases hB:zX es
 ·have U:res=false:=by rw[HR.o];unfold zg;rw[hB];simp
  subst U;rw[hB]at KE;go_enter Tryz.func66,Tryz.ntmps66;go_wp2_with fail;refine KE.o.mono ?_;rintro e w1 ⟨rfl,a6⟩;subst w1;go_wp2_with fail;go_ret;exact⟨rfl,bJ _ _⟩
 rw[hB]at KE;have a7:Hh (∀j,j<es.length->zf k (es.getD j [])=false->res=false):=ay λj hj e=>by
  rw[HR.o];unfold zg;rw[xH (zf k) [] es j hj e];simp
 have b7:Hh (∀v,v<k.toNat->zZ es (v:Int)=false->res=false):=ay λv hv e=>by
  rw[HR.o];unfold zg;rw[qf hv e];simp
 have HT:Hh ((∀j,j<es.length->zf k (es.getD j [])=true)->(∀v,v<k.toNat->zZ es (v:Int)=true)->res=true):=ay λh1 h2=>by
  rw[HR.o];unfold zg;rw[hB,decide_eq_true (by omega:0<=k),decide_eq_true (by omega:k<=6),uC (zf k) [] es h1,qh h2];rfl
 clear HR hB;obtain⟨n,hn⟩:=Ex es.length;rw[<-hn]at a7 HT b0 HC KE HE ⊢;have HN:=ay hn;clear hn;go_enter Tryz.func66,Tryz.ntmps66;go_wp2_with fail;refine KE.o.mono ?_;rintro e w1 ⟨rfl,a6⟩;subst w1;go_wp2_with fail;go_loop [21] (λt=>∃j:Nat,j<=n/\t=ai j/\Hh (∀i,i<j->zf k (es.getD i [])=true)) (λt=>n-(intOf t).toNat);exact⟨0,nZ _,rfl,ay (λi hi=>Oo)⟩;obtain⟨j,hj,rfl,I⟩:=hrel;by_cases b8:j<n
 ·have i1:(j:Int)<(n:Int):=Oo;rcases HC.o with h0|⟨b,o,rfl,O⟩;omega;obtain⟨u,c1,hu⟩:=O j b8;have HK:=ay (QP w u (es.getD j []) k hu (HL.o j));obtain⟨a1,d3,rfl,-⟩:=hu;have fin:=a7.o j b8;have nxt:zf k (es.getD j [])=true->Hh (∀i,i<j+1->zf k (es.getD i [])=true):=λe i hi=>by
   by_cases e2:i=j;rw[e2];exact e;exact I.o i Oo
  clear O I;generalize (es.getD j []).length=m at *;generalize zf k (es.getD j [])=y at *;cases y
  ·obtain rfl:=fin rfl;clear nxt;go_wp2_with fail;refine HK.o.mono ?_;rintro e w1 ⟨rfl,a6⟩;subst w1;go_wp2_with fail;go_ret;exact⟨rfl,bJ _ _⟩
  have U:=nxt rfl;clear fin nxt;go_wp2_with fail;refine HK.o.mono ?_;rintro e w1 ⟨rfl,a6⟩;subst w1;go_wp2_with fail;go_round;exact⟨j+1,Oo,Gg,U⟩;exact Im
 obtain rfl:j=n:=Oo;have b9:Hh ((∀v,v<k.toNat->zZ es (v:Int)=true)->res=true):=ay (HT.o I.o);have i1:¬((j:Int)<(j:Int)):=Oo;clear I HT a7;obtain⟨q,hq⟩:=Ex (k.toNat:Nat);obtain rfl:k=(q:Int):=Oo;rw[<-hq]at b9 b7;clear hq a5 b1;have d4:q<=6:=Oo;go_wp2_with fail;go_loopw [31] (λt wr=>∃v:Nat,v<=q/\t=ai v/\Bl w wr/\Hh (∀i:Nat,i<v->zZ es (i:Int)=true)) (λt _=>q-(intOf t).toNat);exact⟨0,nZ _,rfl,bJ _ _,ay (λi hi=>Oo)⟩;obtain⟨v,hv,rfl,V,I⟩:=hrel;by_cases c8:v<q
 ·have i2:(v:Int)<(q:Int):=Oo;have HK:=ay (yG wr _ (v:Int) es (HE.o.below V) HS.o);have K:zZ es (v:Int)=_:=qA4 (v:Int) es;have fin:=b7.o v c8;have nxt:zZ es (v:Int)=true->Hh (∀i:Nat,i<v+1->zZ es (i:Int)=true):=λe i hi=>by
   by_cases e2:i=v;rw[e2];exact e;exact I.o i Oo
  have hlen:=xp (λi=>decide ((v:Int)∈es.getD i [])) es.length;have c9:=HS.o.1;clear I;generalize plc (λi=>decide ((v:Int)∈es.getD i [])) es.length=pl at *;generalize zZ es (v:Int)=y at *;obtain⟨m,hm⟩:=Ex pl.length;rw[<-hm]at K hlen HK;have d5:m<=1099511627776:=Oo;clear hlen c9 hm;cases y
  ·obtain rfl:=fin rfl;have a8:m=0:=by simpa using K
   clear nxt K;subst a8;go_wp2_with fail;refine HK.o.mono ?_;rintro e w' ⟨v,rfl,⟨d0,(⟨rfl,a3⟩|⟨g,c7,cur,rfl,a3⟩)⟩,a9⟩;all_goals go_wp2_with fail
   all_goals go_ret
   all_goals exact⟨rfl,bt V a9⟩
  have U:=nxt rfl;have a8:m≠0:=by simpa using K
  have d6:¬((m:Int)=0):=Oo;clear fin nxt K;go_wp2_with fail;refine HK.o.mono ?_;rintro e w' ⟨u,rfl,⟨d0,(⟨rfl,a3⟩|⟨g,c7,cur,rfl,a3⟩)⟩,a9⟩;exact absurd a3 a8;go_wp2_with fail;go_roundw;exact⟨v+1,Oo,Gg,bt V a9,U⟩;exact Im
 obtain rfl:v=q:=Oo;obtain rfl:=b9.o I.o;have i2:¬((v:Int)<(v:Int)):=Oo;clear I;go_wp2_with fail;go_ret;exact⟨rfl,V⟩
theorem US(w:World)(ve:Value)(k:Int)(bs:LL)(h:ISS w ve bs)(hl:qT bs):
 Cl 67 #[ai k,ve] w λe w'=>e=.returned (.bool (yH k bs))/\w'=w:=by
 obtain⟨a,cap,rfl,hc⟩:=h;obtain⟨a4,U⟩:=hl;obtain⟨res,I⟩:=Ex (yH k bs);rw[<-I];have HR:=ay I;have HC:=ay hc;have HL:=ay U;clear hc U I;by_cases a5:12<bs.length
 ·have hf:res=false:=by rw[HR.o];unfold yH;rw[decide_eq_false Oo];rfl
  subst hf;have i1:(12:Int)<(bs.length:Int):=Oo;go_enter Tryz.func67,Tryz.ntmps67;go_wp2_with fail;go_ret;exact⟨rfl,rfl⟩
 have HF:Hh (∀j,j<bs.length->za k (bs.getD j [])=false->res=false):=ay λj hj e=>by
  rw[HR.o];unfold yH;rw[xH (za k) [] bs j hj e];simp
 have HT:Hh ((∀j,j<bs.length->za k (bs.getD j [])=true)->res=true):=ay λh1=>by
  rw[HR.o];unfold yH;rw[decide_eq_true Oo,uC (za k) [] bs h1];rfl
 clear HR;have d1:¬((12:Int)<(bs.length:Int)):=Oo;obtain⟨n,hn⟩:=Ex bs.length;rw[<-hn]at HF HT a4 HC d1 ⊢;clear hn a5;go_enter Tryz.func67,Tryz.ntmps67;go_wp2_with fail;go_loop [12] (λt=>∃j:Nat,j<=n/\t=ai j/\Hh (∀i,i<j->za k (bs.getD i [])=true)) (λt=>n-(intOf t).toNat);exact⟨0,nZ _,rfl,ay (λi hi=>Oo)⟩;obtain⟨j,hj,rfl,M⟩:=hrel;by_cases V:j<n
 ·have i1:(j:Int)<(n:Int):=Oo;rcases HC.o with h0|⟨b,o,rfl,K⟩;omega;obtain⟨u,c1,hu⟩:=K j V;have HK:=ay (QP w u (bs.getD j []) k hu (HL.o j));have HV:=ay (zd w u (bs.getD j []) hu (HL.o j));obtain⟨a1,a6,rfl,-⟩:=hu;have fin:=HF.o j V;have nxt:za k (bs.getD j [])=true->Hh (∀i,i<j+1->za k (bs.getD i [])=true):=λe i hi=>by
   by_cases e2:i=j;rw[e2];exact e;exact M.o i Oo
  have hb:za k (bs.getD j [])=(!decide ((bs.getD j []).length=0)&&qV (bs.getD j [])&&zf k (bs.getD j [])):=rfl;have a7:=HL.o j;clear K M;generalize za k (bs.getD j [])=y at *;generalize (bs.getD j []).length=m at *;generalize zf k (bs.getD j [])=y1 at *;generalize qV (bs.getD j [])=y2 at *;by_cases a3:m=0
  ·subst a3;obtain rfl:=fin (by rw[hb];rfl);clear nxt;go_wp2_with fail;go_ret;exact⟨rfl,rfl⟩
  have a8:¬((m:Int)=0):=Oo;rw[decide_eq_false a3,Bool.not_false,Bool.true_and]at hb;cases y2
  ·obtain rfl:=fin (by rw[hb];rfl);clear nxt;go_wp2_with fail;refine HV.o.mono ?_;rintro e w1 ⟨rfl,O⟩;subst w1;go_wp2_with fail;go_ret;exact⟨rfl,rfl⟩
  rw[Bool.true_and]at hb;cases y1
  ·obtain rfl:=fin hb;clear nxt;go_wp2_with fail;refine HV.o.mono ?_;rintro e w1 ⟨rfl,O⟩;subst w1;go_wp2_with fail;refine HK.o.mono ?_;rintro e w1 ⟨rfl,O⟩;subst w1;go_wp2_with fail;go_ret;exact⟨rfl,rfl⟩
  have hf:=nxt hb;clear fin nxt;go_wp2_with fail;refine HV.o.mono ?_;rintro e w1 ⟨rfl,O⟩;subst w1;go_wp2_with fail;refine HK.o.mono ?_;rintro e w1 ⟨rfl,O⟩;subst w1;go_wp2_with fail;go_round;exact⟨j+1,Oo,Gg,hf⟩;exact Im
 obtain rfl:j=n:=Oo;obtain rfl:=HT.o M.o;have i1:¬((j:Int)<(j:Int)):=Oo;clear M;go_wp2_with fail;go_ret;exact⟨rfl,rfl⟩
theorem XN(w:World)(v:Value)(ps:LI)(q:Int)(h:IS w v ps)(hl:ps.length<=1099511627776):
 Cl 68 #[v,ai q] w λe w'=>e=.returned (.bool (zw ps q))/\w'=w:=by
 obtain⟨a,cap,rfl,hc⟩:=h;obtain⟨res,I⟩:=Ex (zw ps q);rw[<-I];have HR:=ay I;have HC:=ay hc;clear hc I;by_cases hq:(ps.length:Int)=q
 case neg=>
  have U:res=false:=by rw[HR.o];unfold zw;rw[decide_eq_false hq];rfl
  subst U;have i1:((ps.length:Int) != q)=true:=by simpa using hq
  go_enter Tryz.func68,Tryz.ntmps68;go_wp2_with fail;go_ret;exact⟨rfl,rfl⟩
 subst hq;have HF:Hh (∀j,j<ps.length->yc ps.length ps j=false->res=false):=ay λj hj e=>by
  rw[HR.o];unfold zw;rw[qf hj e];simp
 have HT:Hh ((∀j,j<ps.length->yc ps.length ps j=true)->res=true):=ay λV=>by
  rw[HR.o];unfold zw;rw[decide_eq_true rfl,qh V];rfl
 clear HR;have d1:(((ps.length:Int)) != (ps.length:Int))=false:=Ss;have HP:Hh (∀j,yc ps.length ps j=(decide (ps.getD j 0=-1)||(decide ((j:Int)<ps.getD j 0)&&decide (ps.getD j 0<(ps.length:Int))))):=ay λj=>rfl;obtain⟨n,hn⟩:=Ex ps.length;rw[<-hn]at HF HT hl HC d1 HP ⊢;clear hn;go_enter Tryz.func68,Tryz.ntmps68;go_wp2_with fail;go_loop [13] (λt=>∃j:Nat,j<=n/\t=ai j/\Hh (∀i,i<j->yc n ps i=true)) (λt=>n-(intOf t).toNat);exact⟨0,nZ _,rfl,ay (λi hi=>Oo)⟩;obtain⟨j,hj,rfl,O⟩:=hrel;by_cases a3:j<n
 ·have i1:(j:Int)<(n:Int):=Oo;rcases HC.o with h0|⟨b,o,rfl,K⟩;omega;have c1:=K j a3;have fin:=HF.o j a3;have nxt:yc n ps j=true->Hh (∀i,i<j+1->yc n ps i=true):=λe i hi=>by
   by_cases e2:i=j;rw[e2];exact e;exact O.o i Oo
  have M:=HP.o j;clear K O;generalize yc n ps j=y at *;generalize ps.getD j 0=x at *;by_cases V:x=-1
  ·subst V;have U:=nxt (by rw[M];rfl);clear fin nxt M;go_wp2_with fail;go_round;exact⟨j+1,Oo,Gg,U⟩;exact Im
  have e1:(x != -1)=true:=by simpa using V
  rw[decide_eq_false V,Bool.false_or]at M;by_cases h2:x<=(j:Int)
  ·obtain rfl:=fin (by rw[M,decide_eq_false Oo];rfl);clear nxt M;go_wp2_with fail;go_ret;exact⟨rfl,rfl⟩
  rw[decide_eq_true (by omega:(j:Int)<x),Bool.true_and]at M;by_cases h3:(n:Int)<=x
  ·obtain rfl:=fin (by rw[M,decide_eq_false Oo]);clear nxt M;go_wp2_with fail;go_ret;exact⟨rfl,rfl⟩
  have U:=nxt (by rw[M,decide_eq_true Oo]);clear fin nxt M;go_wp2_with fail;go_round;exact⟨j+1,Oo,Gg,U⟩;exact Im
 obtain rfl:j=n:=Oo;obtain rfl:=HT.o O.o;have i1:¬((j:Int)<(j:Int)):=Oo;clear O;go_wp2_with fail;go_ret;exact⟨rfl,rfl⟩
def qE:LI->LI->Int
 |[],[]=>0
 |[],_::_=>-1
 |_::_,[]=>1
 |x::a,y::b=>if x<y then -1 else if y<x then 1 else qE a b
theorem xF{l:LI}(h:j<l.length):l.drop j=l.getD j 0::l.drop (j+1):=by
 rw[gD,gE h];exact List.drop_eq_getElem_cons h
theorem uP(a b:LI):∀j,j<=a.length->j<=b.length->(∀i,i<j->a.getD i 0=b.getD i 0)->qE a b=qE (a.drop j) (b.drop j):=by
 intro j;induction j with
 |zero=>intros;simp
 |succ j ih=>
  intro K M I;rw[ih Oo Oo (λi hi=>I i Oo),xF (show j<a.length by omega),xF (show j<b.length by omega),I j Oo];simp[qE]
theorem qAu(I:j<a.length)(K:j<b.length)(M:∀i,i<j->a.getD i 0=b.getD i 0)(O:a.getD j 0<b.getD j 0):qE a b=-1:=by
 rw[uP a b j Oo Oo M,xF I,xF K];simp only[qE];rw[if_pos O]
theorem Yi(I:j<a.length)(K:j<b.length)(M:∀i,i<j->a.getD i 0=b.getD i 0)(O:b.getD j 0<a.getD j 0):qE a b=1:=by
 rw[uP a b j Oo Oo M,xF I,xF K];simp only[qE];rw[if_neg Oo,if_pos O]
theorem Xd(I:a.length<b.length)(K:∀i,i<a.length->a.getD i 0=b.getD i 0):qE a b=-1:=by
 rw[uP a b a.length Oo Oo K,xF I,List.drop_length];rfl
theorem VX(I:b.length<a.length)(K:∀i,i<b.length->a.getD i 0=b.getD i 0):qE a b=1:=by
 rw[uP a b b.length Oo Oo K,xF I,List.drop_length];rfl
theorem VY(I:a.length=b.length)(K:∀i,i<a.length->a.getD i 0=b.getD i 0):qE a b=0:=by
 rw[uP a b a.length Oo Oo K,List.drop_length,I,List.drop_length];rfl
def qDb(x y:Int):Int:=if x<y then -1 else if y<x then 1 else 0
theorem Uo(w:World)(x y:Int):
 Cl 161 #[ai x,ai y] w λe w'=>e=.returned (ai (qDb x y))/\w'=w:=by
 have M:(x != x)=false:=Ss;have O:(y != y)=false:=Ss;unfold qDb;by_cases I:x<y
 ·rw[if_pos I];go_enter Tryz.func161,Tryz.ntmps161;go_wp2;go_ret;exact⟨rfl,rfl⟩
 rw[if_neg I];by_cases K:y<x
 ·rw[if_pos K];go_enter Tryz.func161,Tryz.ntmps161;go_wp2;go_ret;exact⟨rfl,rfl⟩
 rw[if_neg K];go_enter Tryz.func161,Tryz.ntmps161;go_wp2;go_ret;exact⟨rfl,rfl⟩
theorem Xe{I lb:LI}(h:∀i,i<j->I.getD i 0=lb.getD i 0)(e:I.getD j 0=lb.getD j 0):∀i,i<j+1->I.getD i 0=lb.getD i 0:=λi hi=>by
 by_cases K:i=j;rw[K];exact e;exact h i Oo
theorem vf(w:World)(va vb:Value)(U lb:LI)(ha:IS w va U)(hb:IS w vb lb)(hl:U.length<=1099511627776)(a6:lb.length<=1099511627776):
 Cl 132 #[va,vb] w λe w'=>e=.returned (ai (qE U lb))/\w'=w:=by
 obtain⟨a,cap,rfl,hc⟩:=ha;obtain⟨a',a8,rfl,a4⟩:=hb;obtain⟨n,hn⟩:=Ex U.length;obtain⟨m,hm⟩:=Ex lb.length;obtain⟨res,V⟩:=Ex (qE U lb);rw[<-V];rw[<-hn]at hc hl ⊢;rw[<-hm]at a4 a6 ⊢;have HR:=ay V;have HC:=ay hc;have a7:=ay a4;have HN:=ay hn;have HM:=ay hm;clear hc a4 hn hm V;go_enter Tryz.func132,Tryz.ntmps132;go_wp2;go_loop [11] (λt=>∃j:Nat,j<=n/\j<=m/\t=ai j/\Hh (∀i,i<j->U.getD i 0=lb.getD i 0)) (λt=>n-(intOf t).toNat);exact⟨0,nZ _,nZ _,rfl,ay (λi hi=>Oo)⟩;obtain⟨j,hj,a9,rfl,I⟩:=hrel;by_cases a3:j<n
 ·have i1:(j:Int)<(n:Int):=Oo;rcases HC.o with h0|⟨b,o,rfl,M⟩;omega;have c1:w.cell? (az b (o+j))=some (ai (U.getD j 0)):=M j a3;by_cases K:j<m
  ·have i2:¬((m:Int)<=(j:Int)):=Oo;rcases a7.o with h0|⟨b',o',rfl,O⟩;omega;have c2:w.cell? (az b' (o'+j))=some (ai (lb.getD j 0)):=O j K;have HK:=ay (Uo w (U.getD j 0) (lb.getD j 0));have f1:U.getD j 0<lb.getD j 0->Hh (res=-1):=λe=>HR.o.trans (qAu (by rw[<-HN.o];exact a3) (by rw[<-HM.o];exact K) I.o e);have f2:lb.getD j 0<U.getD j 0->Hh (res=1):=λe=>HR.o.trans (Yi (by rw[<-HN.o];exact a3) (by rw[<-HM.o];exact K) I.o e);have f3:U.getD j 0=lb.getD j 0->Hh (∀i,i<j+1->U.getD i 0=lb.getD i 0):=Xe I.o;clear M O I;unfold qDb at HK;generalize U.getD j 0=x at *;generalize lb.getD j 0=y at *;by_cases h1:x<y
   ·have hf:=f1 h1;rw[if_pos h1]at HK;clear f1 f2 f3;go_wp2_with (first|(go_at_call 161;refine HK.o.mono ?_;rintro e w' ⟨rfl,a5⟩;subst w'));go_ret;exact⟨qR hf.o.symm,rfl⟩
   by_cases h2:y<x
   ·have hf:=f2 h2;rw[if_neg h1,if_pos h2]at HK;clear f1 f2 f3;go_wp2_with (first|(go_at_call 161;refine HK.o.mono ?_;rintro e w' ⟨rfl,a5⟩;subst w'));go_ret;exact⟨qR hf.o.symm,rfl⟩
   have hf:=f3 Oo;rw[if_neg h1,if_neg h2]at HK;clear f1 f2 f3;go_wp2_with (first|(go_at_call 161;refine HK.o.mono ?_;rintro e w' ⟨rfl,a5⟩;subst w'));go_round;exact⟨j+1,Oo,Oo,Gg,hf⟩;exact Im
  have i2:(m:Int)<=(j:Int):=Oo;obtain rfl:j=m:=Oo;have hf:Hh (res=1):=HR.o.trans (VX (by rw[<-HN.o,<-HM.o];exact a3) (by rw[<-HM.o];exact I.o));clear M I;go_wp2;go_ret;exact⟨qR hf.o.symm,rfl⟩
 obtain rfl:j=n:=Oo;have i1:¬((j:Int)<(j:Int)):=Oo;by_cases K:j<m
 ·have i2:(j:Int)<(m:Int):=Oo;have hf:Hh (res=-1):=HR.o.trans (Xd (by rw[<-HN.o,<-HM.o];exact K) (by rw[<-HN.o];exact I.o));clear I;go_wp2;go_ret;exact⟨qR hf.o.symm,rfl⟩
 have i2:¬((j:Int)<(m:Int)):=Oo;have hf:Hh (res=0):=HR.o.trans (VY (by rw[<-HN.o,<-HM.o];omega) (by rw[<-HN.o];exact I.o));clear I;go_wp2;go_ret;exact⟨qR hf.o.symm,rfl⟩
theorem zL(w:World)(va vb:Value)(O lb:LI)(ha:IS w va O)(hb:IS w vb lb)(hl:O.length<=1099511627776)(a5:lb.length<=1099511627776):
 Cl 48 #[va,vb] w λe w'=>e=.returned (ai (qE O lb))/\∃q,w'=w.drewN q:=by
 obtain⟨a,cap,rfl,hc⟩:=ha;obtain⟨a',a7,rfl,a4⟩:=hb;obtain⟨n,hn⟩:=Ex O.length;obtain⟨m,hm⟩:=Ex lb.length;obtain⟨res,U⟩:=Ex (qE O lb);rw[<-U];rw[<-hn]at hc hl ⊢;rw[<-hm]at a4 a5 ⊢;have HR:=ay U;have HC:=ay hc;have a6:=ay a4;have HN:=ay hn;have HM:=ay hm;clear hc a4 hn hm U;go_enter Tryz.func48,Tryz.ntmps48;go_wp2;go_loopw [5] (λt wr=>∃j:Nat,j<=n/\j<=m/\t=ai j/\Hh (∃q,wr=w.drewN q)/\Hh (∀i,i<j->O.getD i 0=lb.getD i 0)) (λt _=>n-(intOf t).toNat);exact⟨0,nZ _,nZ _,rfl,ay ⟨0,rfl⟩,ay (λi hi=>Oo)⟩;obtain⟨j,hj,a8,rfl,hB,I⟩:=hrel;by_cases a3:j<n
 ·have i1:(j:Int)<(n:Int):=Oo;by_cases K:j<m
  ·have i2:(j:Int)<(m:Int):=Oo;rcases HC.o with h0|⟨b,o,rfl,V⟩;omega;have c1:wr.cell? (az b (o+j))=some (ai (O.getD j 0)):=by obtain⟨m,rfl⟩:=hB.o;exact V j a3
   rcases a6.o with h0|⟨b',o',rfl,M⟩;omega;have c2:wr.cell? (az b' (o'+j))=some (ai (lb.getD j 0)):=by obtain⟨m,rfl⟩:=hB.o;exact M j K
   have f1:O.getD j 0<lb.getD j 0->Hh (res=-1):=λe=>HR.o.trans (qAu (by rw[<-HN.o];exact a3) (by rw[<-HM.o];exact K) I.o e);have f2:lb.getD j 0<O.getD j 0->Hh (res=1):=λe=>HR.o.trans (Yi (by rw[<-HN.o];exact a3) (by rw[<-HM.o];exact K) I.o e);have f3:O.getD j 0=lb.getD j 0->Hh (∀i,i<j+1->O.getD i 0=lb.getD i 0):=Xe I.o;clear V M I;generalize O.getD j 0=x at *;generalize lb.getD j 0=y at *;by_cases h1:x<y
   ·have hf:=f1 h1;clear f1 f2 f3;go_wp2_with fail;go_quiet (fail)
    go_wp2;go_ret;exact⟨qR hf.o.symm,zY _ hB.o⟩
   by_cases h2:y<x
   ·have hf:=f2 h2;clear f1 f2 f3;go_wp2_with fail;go_quiet (fail)
    go_wp2_with fail;go_quiet (fail)
    go_wp2;go_ret;exact⟨qR hf.o.symm,zY _ (zY _ hB.o)⟩
   have hf:=f3 Oo;clear f1 f2 f3;go_wp2_with fail;go_quiet (fail)
   go_wp2_with fail;go_quiet (fail)
   go_wp2;go_roundw;exact⟨j+1,Oo,Oo,Gg,ay (zY _ hB.o),hf⟩;exact Im
  obtain rfl:j=m:=Oo;have i2:¬((j:Int)<(j:Int)):=Oo;have i3:¬((n:Int)=(j:Int)):=Oo;have i4:¬((n:Int)<(j:Int)):=Oo;have hf:Hh (res=1):=HR.o.trans (VX (by rw[<-HN.o,<-HM.o];exact a3) (by rw[<-HM.o];exact I.o));clear I;go_wp2;go_ret;exact⟨qR hf.o.symm,hB.o⟩
 obtain rfl:j=n:=Oo;have i1:¬((j:Int)<(j:Int)):=Oo;by_cases K:j<m
 ·have i2:(j:Int)<(m:Int):=Oo;have i3:¬((j:Int)=(m:Int)):=Oo;have hf:Hh (res=-1):=HR.o.trans (Xd (by rw[<-HN.o,<-HM.o];exact K) (by rw[<-HN.o];exact I.o));clear I;go_wp2;go_ret;exact⟨qR hf.o.symm,hB.o⟩
 obtain rfl:j=m:=Oo;have hf:Hh (res=0):=HR.o.trans (VY (by rw[<-HN.o,<-HM.o]) (by rw[<-HN.o];exact I.o));clear I;go_wp2;go_ret;exact⟨qR hf.o.symm,hB.o⟩
end Go.Proofs.YtcnfapnfmnolbaaGreat
