import Derived.Test.YtkaipapdlnojiaaGreatWq19
set_option maxHeartbeats 40000000
set_option maxRecDepth 1000000
namespace Go.Proofs.YtkaipapdlnojiaaGreat
open Go.RowKit
variable {k x:Int}{es:List (List Int)}{a b bag l:List Int}{i j p r:Nat}
def qM(bag e:List Int):List Int:=e.filter λv=>decide (v∈bag)
def yT(a b:List Int):Bool:=a.all λx=>decide (x∈b)
def kM(bag:List Int)(es:List (List Int))(i j:Nat):Bool:=
 decide (j≠i)&&yT (qM bag (es.getD i [])) (qM bag (es.getD j []))&&(decide ((qM bag (es.getD i [])).length < (qM bag (es.getD j [])).length)||decide (j < i))
def yl(bag:List Int)(es:List (List Int))(i:Nat):Bool:=
 decide (0 < (qM bag (es.getD i [])).length)&&(List.range es.length).all λj=>!kM bag es i j
def zX(bag:List Int)(es:List (List Int)):List Nat:=(List.range es.length).filter (yl bag es)
def zZ(bag:List Int)(es:List (List Int)):List (List Int):=(zX bag es).map λi=>qM bag (es.getD i [])
theorem xx:yT a b=true↔∀x∈a,x∈b:=by simp[yT]
theorem vC{e:List Int}:x∈qM bag e↔x∈e/\x∈bag:=by simp[qM]
theorem qA1{P:Nat->Prop}{f:Nat->Nat}{N:Nat}(M:∀i,P i->f i<=N)(hi:P i):∃j,P j/\∀k,P k->f k<=f j:=by
 refine Classical.byContradiction λI=>?_
 have step:∀n,∃j,P j/\n<=f j:=by
  intro n;induction n with
  |zero=>exact⟨i,hi,nZ _⟩
  |succ n ih=>
   obtain⟨j,K,O⟩:=ih;refine Classical.byContradiction λU=>I ⟨j,K,λk V=>?_⟩;refine Classical.byContradiction λh3=>U ⟨k,V,Oo⟩
 obtain⟨j,K,O⟩:=step (N+1);have:=M j K;omega
theorem qA2{P:Nat->Prop}(hi:P i):∃j,P j/\∀k,P k->j<=k:=by
 refine Classical.byContradiction λI=>?_
 have step:∀n k,k < n->¬P k:=by
  intro n;induction n with
  |zero=>intro k K;omega
  |succ n ih=>
   intro k K hp;by_cases e:k < n
   ·exact ih k e hp
   ·refine I ⟨k,hp,λm M=>?_⟩;refine Classical.byContradiction λO=>ih m Oo M
 exact step (i+1) i Oo hi
theorem uB(I:a.Nodup)(h:∀x∈a,x∈b):a.length<=b.length:=by
 induction a generalizing b with
 |nil=>simp
 |cons x a ih=>
  have K:x∈b:=h x (List.mem_cons_self);rw[List.nodup_cons]at I
  have O:=ih (b:=b.erase x) I.2 (λy M=>by
   have:y≠x:=λe=>I.1 (e ▸ M);exact(List.mem_erase_of_ne this).2 (h y (mC _ M)))
  rw[List.length_erase_of_mem K]at O;have:0 < b.length:=List.length_pos_of_mem K;simp only[List.length_cons];omega
theorem Yo(hn:∀i,i < es.length->(es.getD i []).Nodup)(hi:i < es.length)(h0:0 < (qM bag (es.getD i [])).length):
 ∃j,j < es.length/\yl bag es j=true/\yT (qM bag (es.getD i [])) (qM bag (es.getD j []))=true:=by
 have a3:∀j,j < es.length->(qM bag (es.getD j [])).Nodup:=λj K=>List.Pairwise.filter _ (hn j K)
 obtain⟨t,⟨ht,a4⟩,I⟩:=qA1 (P:=λj=>j < es.length/\yT (qM bag (es.getD i [])) (qM bag (es.getD j []))=true) (f:=λj=>(qM bag (es.getD j [])).length) (N:=(es.map List.length).sum)
  (λj K=>by
   have h1:(qM bag (es.getD j [])).length<=(es.getD j []).length:=List.length_filter_le _ _
   have h2:(es.getD j []).length<=(es.map List.length).sum:=by
    have:es.getD j []∈es:=by
     rw[gD,bC K.1];exact gM K.1
    have hm:(es.getD j []).length∈es.map List.length:=List.mem_map_of_mem this;clear h1;generalize es.map List.length=L at hm;generalize (es.getD j []).length=y at hm;induction L with
    |nil=>cases hm
    |cons z L ih=>
     rcases List.mem_cons.1 hm with rfl|h
     ·simp
     ·have:=ih h;simp;omega
   omega) (i:=i) ⟨hi,xx.2 (λx M=>M)⟩
 obtain⟨j,⟨K,O,a5⟩,U⟩:=qA2 (P:=λj=>j < es.length/\yT (qM bag (es.getD i [])) (qM bag (es.getD j []))=true/\(qM bag (es.getD t [])).length<=(qM bag (es.getD j [])).length) (i:=t) ⟨ht,a4,bK _⟩;refine⟨j,K,?_,O⟩;unfold yl;rw[bA,dE,bY];have h1:=I i ⟨hi,xx.2 (λx M=>M)⟩;refine⟨Oo,λk hk=>?_⟩;have V:k < es.length:=by simpa using hk
 rw[Bool.not_eq_true'];refine Bool.eq_false_iff.2 λho=>?_;unfold kM at ho;rw[bA,bA,Bool.or_eq_true,dE,dE,dE]at ho;obtain⟨⟨a6,hs⟩,hl⟩:=ho;have a2:yT (qM bag (es.getD i [])) (qM bag (es.getD k []))=true:=xx.2 (λx M=>xx.1 hs x (xx.1 O x M));have h2:=I k ⟨V,a2⟩;have h3:=uB (a3 j K) (xx.1 hs);have h4:=U k;rcases hl with hl|hl
 ·omega
 ·have:=h4 ⟨V,a2,Oo⟩;omega
theorem kN(h:p < (zX bag es).length):(zZ bag es).getD p []=qM bag (es.getD ((zX bag es).getD p 0) []):=by
 unfold zZ;rw[gD,bN,gD (l:=zX bag es),bC h];rfl
theorem ZP(h:p < (zX bag es).length):(zX bag es).getD p 0 < es.length/\yl bag es ((zX bag es).getD p 0)=true:=by
 have:(zX bag es).getD p 0∈zX bag es:=by
  rw[gD,bC h];exact gM h
 have I:=List.mem_filter.1 this;exact⟨by simpa using I.1,I.2⟩
theorem Yp(I:j < es.length)(K:yl bag es j=true):∃p,p < (zX bag es).length/\(zX bag es).getD p 0=j:=by
 have:j∈zX bag es:=List.mem_filter.2 ⟨by simpa using I,K⟩;obtain⟨p,hp,e⟩:=gO this;exact⟨p,hp,by rw[gD,bC hp];exact e⟩
theorem yL(bag:List Int)(es:List (List Int)):(zZ bag es).length=(zX bag es).length:=by simp[zZ]
theorem qDX(bag:List Int)(es:List (List Int)):(zX bag es).length<=es.length:=by
 unfold zX;exact bQ (List.length_filter_le _ _) Ss
theorem yD{e:Nat}(hr:r < bag.length)(K:e < es.length):inc (qG bag es) r e=if bag.getD r 0∈es.getD e [] then 1 else 0:=by
 unfold inc qG
 have M:(bag.map λx=>plN (λi=>decide (x∈es.getD i [])) es.length).getD r []=plN (λi=>decide (bag.getD r 0∈es.getD i [])) es.length:=by
  rw[gD,bN,gD (l:=bag),bC hr];rfl
 rw[M];unfold plN;by_cases I:bag.getD r 0∈es.getD e []
 ·rw[if_pos I,if_pos (List.mem_filter.2 ⟨by simpa using K,by simpa using I⟩)]
 ·rw[if_neg I,if_neg (λh=>I (by simpa using (List.mem_filter.1 h).2))]
theorem yI(hr:r < bag.length):bag.getD r 0∈bag:=by
 rw[gD,bC hr];exact gM hr
theorem J4(hn:∀i,i < es.length->(es.getD i []).Nodup){x y:Nat->Rat}(hx:qY bag.length es.length (inc (qG bag es)) x)
 (hy:qY bag.length (zZ bag es).length (inc (qG bag (zZ bag es))) y):Cov.sm es.length x=Cov.sm (zZ bag es).length y:=by
 have K:∀e,∃p,e < es.length->0 < (qM bag (es.getD e [])).length->p < (zX bag es).length/\yT (qM bag (es.getD e [])) (qM bag (es.getD ((zX bag es).getD p 0) []))=true:=by
  intro e;by_cases h:e < es.length/\0 < (qM bag (es.getD e [])).length
  ·obtain⟨j,M,O,h3⟩:=Yo hn h.1 h.2;obtain⟨p,h4,h5⟩:=Yp M O;exact⟨p,λ_ _=>⟨h4,by rw[h5];exact h3⟩⟩
  ·exact⟨0,λM O=>absurd ⟨M,O⟩ h⟩
 obtain⟨up,K⟩:∃up:Nat->Nat,∀e,e < es.length->0 < (qM bag (es.getD e [])).length->up e < (zX bag es).length/\yT (qM bag (es.getD e [])) (qM bag (es.getD ((zX bag es).getD (up e) 0) []))=true:=
  ⟨λe=>Classical.choose (K e),λe=>Classical.choose_spec (K e)⟩
 have hl:=yL bag es;refine Cov.kept_sum (m:=bag.length) (rep:=λp=>(zX bag es).getD p 0) (up:=up) (nz:=λe=>decide (0 < (qM bag (es.getD e [])).length)) ?_ ?_ ?_ ?_ hx.1 hx.2 hy.1 hy.2
 ·intro r hr p hp;rw[hl]at hp;have hk:=ZP hp;rw[yD hr (by rw[hl];exact hp),yD hr hk.1,kN hp];have:=yI hr;by_cases I:bag.getD r 0∈es.getD ((zX bag es).getD p 0) []
  ·rw[if_pos I,if_pos (vC.2 ⟨I,this⟩)]
  ·rw[if_neg I,if_neg (λh=>I (vC.1 h).1)]
 ·intro p hp;rw[hl]at hp;exact(ZP hp).1
 ·intro e U V r hr;rw[yD hr U,if_neg];intro I;have M:bag.getD r 0∈qM bag (es.getD e []):=vC.2 ⟨I,yI hr⟩;have O:=List.length_pos_of_mem M;have a2:=of_decide_eq_false V;omega
 ·intro e U V;have h0:0 < (qM bag (es.getD e [])).length:=by simpa using V
  obtain⟨M,O⟩:=K e U h0;refine⟨by rw[hl];exact M,λr hr=>?_⟩;rw[yD hr U,yD hr (ZP M).1];by_cases I:bag.getD r 0∈es.getD e []
  ·have:=(vC.1 (xx.1 O _ (vC.2 ⟨I,yI hr⟩))).1;rw[if_pos I,if_pos this];exact Rat.le_refl
  ·rw[if_neg I];split
   ·decide
   ·exact Rat.le_refl
theorem ug(hb:bag.length<=7)(K:∀r,r < bag.length->∃e,e < es.length/\bag.getD r 0∈es.getD e []):∃x,qY bag.length es.length (inc (qG bag es)) x/\Parts es.length x:=by
 obtain⟨bar,s,O,U,V⟩:=Cov.least_cover (m:=bag.length) (u:=es.length) (M:=inc (qG bag es)) (λr _ e _=>kT _ r e) (λr hr=>by
  obtain⟨e,I,hm⟩:=K r hr;exact⟨e,I,by rw[yD hr I,if_pos hm]⟩)
 exact⟨_,⟨U,V⟩,ZX O hb (λj _ r _=>jO _ _ _ _ _) _⟩
theorem J5(M:∀i,i < es.length->(es.getD i []).Nodup)(O:∀r,r < bag.length->∃e,e < es.length/\bag.getD r 0∈es.getD e []):
 ∀r,r < bag.length->∃e,e < (zZ bag es).length/\bag.getD r 0∈(zZ bag es).getD e []:=by
 intro r hr;obtain⟨e,U,V⟩:=O r hr;have I:bag.getD r 0∈qM bag (es.getD e []):=vC.2 ⟨V,yI hr⟩;obtain⟨j,h2,h3,h4⟩:=Yo M U (List.length_pos_of_mem I);obtain⟨p,K,h6⟩:=Yp h2 h3;exact⟨p,by rw[yL];exact K,by rw[kN K,h6];exact xx.1 h4 _ I⟩
def gW:Nat->List (Nat->Rat)
 |0=>[λ_=>0]
 |u+1=>(gW u).flatMap λf=>(List.range 5041).flatMap λd=>(List.range 10081).map λ(z:Nat)=>λj=>if j=u then mkRat (z-5040) d else f j
theorem gWm{x:Nat->Rat}:∀{u},(∀j,j<u->Sm 5040 (x j))->∃y∈gW u,∀j,j<u->y j=x j
 |0,_=>⟨_,.head _,λj h=>by omega⟩
 |u+1,h=>by
  have⟨y,hy,e⟩:=gWm (u:=u) λj k=>h j (by omega)
  have⟨h1,h2⟩:=h u (by omega)
  refine⟨_,List.mem_flatMap.2 ⟨y,hy,List.mem_flatMap.2 ⟨(x u).den,List.mem_range.2 (by omega),List.mem_map.2 ⟨((x u).num+5040).toNat,List.mem_range.2 (by omega),rfl⟩⟩⟩,λj k=>?_⟩
  show(if j=u then mkRat _ _ else y j)=_
  split
  ·subst j;rw[show ((((x u).num+5040).toNat:Nat):Int)-5040=(x u).num by omega,Rat.mkRat_self]
  ·exact e j (by omega)
def wdR(es:List (List Int))(bag:List Int):Rat:=(((gW es.length).filter λy=>decide ((∀i,i<es.length->0<=y i)/\∀r,r<bag.length->1<=Cov.sm es.length λi=>inc (qG bag es) r i*y i)).map (Cov.sm es.length)).min?.getD 0
theorem qCJ{x:Nat->Rat}(h:qY bag.length es.length (inc (qG bag es)) x)(p:Parts es.length x):Cov.sm es.length x=wdR es bag:=by
 have⟨y,hy,e⟩:=gWm λj k=>p.sm k
 refine(congrArg (Option.getD · 0) (List.min?_eq_some_iff.2 ⟨List.mem_map.2 ⟨y,List.mem_filter.2 ⟨hy,decide_eq_true ⟨λi k=>e i k▸h.1.1 i k,λr k=>?_⟩⟩,Cov.sm_congr e⟩,λb k=>?_⟩)).symm
 ·obtain⟨z,hz,rfl⟩:=List.mem_map.1 k;have k:=of_decide_eq_true (List.mem_filter.1 hz).2;have:=h.2 z ⟨k.1,k.2⟩;unfold Cov.key Cov.Lex at this;grind
 ·rw[Cov.sm_congr λi k=>congrArg (inc _ r i*·) (e i k)];exact h.1.2 r k
def zW(f:Nat->Rat):Nat->Rat
 |0=>0
 |n+1=>if zW f n < f n then f n else zW f n
theorem U2{f:Nat->Rat}{B:Nat}(hB:1<=B):∀{n:Nat},(∀i,i < n->Sm B (f i))->Sm B (zW f n)
 |0,_=>⟨by show(0:Rat).num.natAbs<=B;simp,by show(0:Rat).den<=B;simpa using hB⟩
 |n+1,h=>by
  show Sm B (if zW f n < f n then f n else zW f n);split
  ·exact h n Oo
  ·exact U2 hB (λi hi=>h i Oo)
structure GoodBag(es:List (List Int))(bag:List Int):Prop where
 set:qL bag=true
 cov:ql bag es=true
theorem U3(h:qL l=true):l.Nodup:=by
 have key:∀j,j < l.length->∀i,i < j->l.getD i 0 < l.getD j 0:=by
  intro j;induction j with
  |zero=>intro _ i hi;omega
  |succ j ih=>
   intro I i hi;have M:=(x9 h I).2.2;rw[show j+1 - 1=j by omega]at M;by_cases e:i=j
   ·subst e;omega
   ·have:=ih Oo i Oo;omega
 unfold List.Nodup;rw[List.pairwise_iff_getElem];intro i j hi I K;have:=key j I i K;rw[gD,gD,bC I,bC hi]at this;simp only[Option.getD_some]at this;omega
theorem J0(h:qj es=true):∀i,i < es.length->(es.getD i []).Nodup:=by
 intro i hi;unfold qj at h;rw[bA,bY]at h;refine U3 (h.2 _ ?_);rw[gD,bC hi];exact gM hi
theorem Yn(h:ql bag es=true):∀r,r < bag.length->∃e,e < es.length/\bag.getD r 0∈es.getD e []:=by
 intro r hr;unfold ql at h;rw[bY]at h;have:=h _ (yI hr);rw[List.any_eq_true]at this;obtain⟨e,K,M⟩:=this;obtain⟨j,I,O⟩:=gO K;exact⟨j,I,by rw[gD (l:=es),bC I,Option.getD_some,O];simpa using M⟩
theorem GoodBag.best(h:GoodBag es bag):∃x,qY bag.length es.length (inc (qG bag es)) x/\Parts es.length x:=
 ug (by have:=xq h.set;omega) (Yn h.cov)
theorem GoodBag.sm(h:GoodBag es bag)(I:qj es=true):Sm 36000 (wdR es bag):=by
 obtain⟨x,K,hp⟩:=h.best;rw[<-qCJ K hp];exact hp.sum (bK _) (xH I)
theorem qDU(h:qL l=true):∀j,j < l.length->∀i,i<=j->l.getD i 0<=l.getD j 0:=by
 intro j;induction j with
 |zero=>intro _ i hi;rw[show i=0 by omega];exact Int.le_refl _
 |succ j ih=>
  intro I i hi;have K:=(x9 h I).2.2;rw[show j+1 - 1=j by omega]at K;by_cases e:i=j+1
  ·subst e;exact Int.le_refl _
  ·have:=ih Oo i Oo;omega
theorem qEo(h:qL l=true)(I:uf k l=true)(K:x∈l):0<=x/\x < k:=by
 obtain⟨i,hi,rfl⟩:=zz K;refine⟨(x9 h hi).1,?_⟩;unfold uf at I;rw[Bool.or_eq_true,dE,dE]at I;have:=qDU h (l.length - 1) Oo i Oo;omega
def xL(k:Int)(l:List Int)(j:Nat):Bool:=decide (0<=l.getD j 0)&&decide (l.getD j 0 < k)&&(decide (j=0)||decide (l.getD (j - 1) 0 < l.getD j 0))
def z6(k:Int)(l:List Int):Bool:=(List.range l.length).all (xL k l)
theorem XF(h:∀i,i < l.length->xL k l i=true):z6 k l=true:=yC h
theorem J1(I:j < l.length)(h:xL k l j=false):z6 k l=false:=yk I h
theorem J2(k:Int)(l:List Int)(j:Nat):
 (l.getD j 0 < 0/\xL k l j=false)∨(0<=l.getD j 0/\k<=l.getD j 0/\xL k l j=false)∨(0<=l.getD j 0/\l.getD j 0 < k/\j=0/\xL k l j=true)∨
 (0<=l.getD j 0/\l.getD j 0 < k/\0 < j/\l.getD j 0<=l.getD (j - 1) 0/\xL k l j=false)∨(0<=l.getD j 0/\l.getD j 0 < k/\0 < j/\l.getD (j - 1) 0 < l.getD j 0/\xL k l j=true):=by
 unfold xL;generalize l.getD j 0=x;generalize l.getD (j - 1) 0=y;by_cases K:x < 0
 ·left;refine⟨K,?_⟩;simp;omega
 ·by_cases M:k<=x
  ·right;left;refine⟨Oo,M,?_⟩;simp;omega
  ·by_cases I:j=0
   ·right;right;left;refine⟨Oo,Oo,I,?_⟩;simp[I];omega
   ·by_cases O:y < x
    ·right;right;right;right;refine⟨Oo,Oo,Oo,O,?_⟩;simp;omega
    ·right;right;right;left;refine⟨Oo,Oo,Oo,Oo,?_⟩;simp;omega
theorem qDV(I:k<=6)(l:List Int):z6 k l=(qL l&&uf k l):=by
 cases hs:qL l
 ·rw[Bool.false_and];refine Bool.eq_false_iff.2 λh=>?_;unfold z6 at h;rw[bY]at h
  have:qL l=true:=vj λi hi=>by
   have:=h i (by simpa using hi);unfold xL at this;unfold zc;simp only[Bool.and_eq_true,Bool.or_eq_true,decide_eq_true_eq]at this ⊢;omega
  rw[this]at hs;cases hs
 rw[Bool.true_and];cases hl:uf k l
 ·refine Bool.eq_false_iff.2 λh=>?_;unfold uf at hl;rw[Bool.or_eq_false_iff,decide_eq_false_iff_not,decide_eq_false_iff_not]at hl;unfold z6 at h;rw[bY]at h;have:=h (l.length - 1) (by simp;omega);unfold xL at this;simp only[Bool.and_eq_true,decide_eq_true_eq]at this;exact hl.2 this.1.2
 ·refine XF λi hi=>?_;have K:=x9 hs hi;have M:=qEo hs hl (xz hi);unfold xL;simp only[Bool.and_eq_true,Bool.or_eq_true,decide_eq_true_eq];omega
theorem Xu(w:World)(k:Int)(a4:0<=k)(a5:k<=6)(v:Value)(l:List Int)(h:IS w v l)(hl:l.length<=1099511627776):
 Cl 15 #[v,.int .i64 k] w λe w'=>e=.returned (.bool (z6 k l))/\w'=w:=by
 obtain⟨a,cap,rfl,hc⟩:=h;obtain⟨n,hn⟩:∃n,n=l.length:=⟨_,rfl⟩;obtain⟨res,K⟩:∃r,r=z6 k l:=⟨_,rfl⟩;rw[<-K];have HR:=hid K;rw[<-hn]at hc hl ⊢;have HC:=hid hc;have HN:=hid hn;clear hc hn K;go_enter Tryz.func15,Tryz.ntmps15
 go_wp2;go_loop [9] (λt=>∃j:Nat,j<=n/\t=.int .i64 j/\Hid (∀i,i < j->xL k l i=true)) (λt=>n - (intOf t).toNat)
 case atStart=>exact⟨0,nZ _,rfl,hid (λi hi=>Oo)⟩
 case round=>
  obtain⟨j,hj,rfl,O⟩:=hrel;by_cases a2:j < n
  ·have i1:(j:Int) < (n:Int):=Oo;rcases HC.out with h0|⟨b,o,rfl,I⟩
   ·omega
   ·have c1:w.cell? ⟨b,o+j,none⟩=some (.int .i64 (l.getD j 0)):=I j a2;have a3:=J2 k l j;have fin:xL k l j=false->Hid (res=false):=λe=>HR.out.trans (J1 (by rw[<-HN.out];exact a2) e)
    have nxt:xL k l j=true->Hid (∀i,i < j+1->xL k l i=true):=λe i hi=>by
     by_cases e2:i=j
     ·rw[e2];exact e
     ·exact O.out i Oo
    have c2:0 < j->w.cell? ⟨b,o+(j - 1),none⟩=some (.int .i64 (l.getD (j - 1) 0)):=λe=>I (j - 1) Oo;clear I O;generalize l.getD j 0=x at *;generalize l.getD (j - 1) 0=y at *;rcases a3 with ⟨h1,V⟩|⟨h1,V,U⟩|⟨h1,V,U,h4⟩|⟨h1,V,U,h4,h5⟩|⟨h1,V,U,h4,h5⟩
    ·have M:=fin V;clear c2 fin nxt V;go_wp2_with (first|(go_at_call 43;refine(jV _ _ _ _ Oo).mono ?_;rintro e w' ⟨rfl,rfl⟩))
     go_ret;exact⟨qI (by rw[M.out]),rfl⟩
    ·have M:=fin U;have d1:decide (x < 0)=false:=by simp;omega
     clear c2 fin nxt U;go_wp2_with (first|(go_at_call 43;refine(jY _ _ _ _ Oo Oo).mono ?_;rintro e w' ⟨rfl,rfl⟩))
     go_ret;exact⟨qI (by rw[M.out]),rfl⟩
    ·have M:=nxt h4;have d1:decide (x < 0)=false:=by simp;omega
     have d2:decide (k<=x)=false:=by simp;omega
     subst U;have a6:w.cell? ⟨b,o,none⟩=some (.int .i64 x):=by simpa using c1
     clear c2 fin nxt h4;go_wp2_with (first|(go_at_call 43;refine(zn _ _ _ _ Oo Oo).mono ?_;rintro e w' ⟨rfl,rfl⟩))
     go_round
     case rel=>exact⟨0+1,Oo,Gg,M⟩
     case measure=>simp[intOf];omega
    ·have M:=fin h5;have d1:decide (x < 0)=false:=by simp;omega
     have d2:decide (k<=x)=false:=by simp;omega
     have c3:=c2 U;have i3:(0:Int) < (j:Int):=Oo;have i4:((j:Int) - 1).toNat=j - 1:=Oo;clear c2 fin nxt h5;go_wp2_with (first|(go_at_call 43;refine(zn _ _ _ _ Oo Oo).mono ?_;rintro e w' ⟨rfl,rfl⟩))
     go_ret;exact⟨qI (by rw[M.out]),rfl⟩
    ·have M:=nxt h5;have d1:decide (x < 0)=false:=by simp;omega
     have d2:decide (k<=x)=false:=by simp;omega
     have d3:decide (x<=y)=false:=by simp;omega
     have c3:=c2 U;have i3:(0:Int) < (j:Int):=Oo;have i4:((j:Int) - 1).toNat=j - 1:=Oo;clear c2 fin nxt h5;go_wp2_with (first|(go_at_call 43;refine(zn _ _ _ _ Oo Oo).mono ?_;rintro e w' ⟨rfl,rfl⟩))
     go_round
     case rel=>exact⟨j+1,Oo,Gg,M⟩
     case measure=>simp[intOf];omega
  ·obtain rfl:j=n:=Oo;have M:Hid (res=true):=HR.out.trans (XF (λi hi=>O.out i (by rw[HN.out];exact hi)));have i1:¬((j:Int) < (j:Int)):=Oo;clear O;go_wp2;go_ret;exact⟨qI (by rw[M.out]),rfl⟩
theorem Xv(w:World)(v v2:Value)(l K:List Int)(h:IS w v l)(hl:l.length<=1099511627776)(h2:IS w v2 K)(V:K.length<=1099511627776):
 Cl 22 #[v,v2] w λe w'=>e=.returned (.bool (yT l K))/\w'=w:=by
 obtain⟨a,cap,rfl,hc⟩:=h;have H2:=hid h2;obtain⟨a2,a4,rfl,-⟩:=h2;obtain⟨res,I⟩:∃r,r=yT l K:=⟨_,rfl⟩;rw[<-I]
 have HF:Hid (∀j,j < l.length->decide (l.getD j 0∈K)=false->res=false):=hid λj hj e=>by
  rw[I];unfold yT;exact yB (λx=>decide (x∈K)) 0 l j hj e
 have HT:Hid ((∀j,j < l.length->decide (l.getD j 0∈K)=true)->res=true):=hid λh1=>by
  rw[I];unfold yT;exact kH (λx=>decide (x∈K)) 0 l h1
 obtain⟨n,hn⟩:∃n,n=l.length:=⟨_,rfl⟩;rw[<-hn]at hc hl HF HT ⊢;have HC:=hid hc;clear hc hn I;go_enter Tryz.func22,Tryz.ntmps22
 go_wp2_with fail
 go_loop [9] (λt=>∃j:Nat,j<=n/\t=.int .i64 j/\Hid (∀i,i < j->decide (l.getD i 0∈K)=true)) (λt=>n - (intOf t).toNat)
 case atStart=>exact⟨0,nZ _,rfl,hid (λi hi=>Oo)⟩
 case round=>
  obtain⟨j,hj,rfl,O⟩:=hrel;by_cases U:j < n
  ·have i1:(j:Int) < (n:Int):=Oo;rcases HC.out with h0|⟨b,o,rfl,M⟩
   ·omega
   ·have c1:=M j U;have HK:=hid (qU w _ K (l.getD j 0) H2.out V);have fin:=HF.out j U
    have nxt:decide (l.getD j 0∈K)=true->Hid (∀i,i < j+1->decide (l.getD i 0∈K)=true):=λe i hi=>by
     by_cases e2:i=j
     ·rw[e2];exact e
     ·exact O.out i Oo
    clear M O;generalize decide (l.getD j 0∈K)=y at *;generalize l.getD j 0=x at *;cases y
    ·obtain rfl:=fin rfl;clear nxt;go_wp2_with fail
     refine HK.out.mono ?_;rintro e w1 ⟨rfl,a3⟩;subst w1;go_wp2_with fail
     go_ret;exact⟨rfl,rfl⟩
    ·have hf:=nxt rfl;clear fin nxt;go_wp2_with fail
     refine HK.out.mono ?_;rintro e w1 ⟨rfl,a3⟩;subst w1;go_wp2_with fail
     go_round
     case rel=>exact⟨j+1,Oo,Gg,hf⟩
     case measure=>simp[intOf];omega
  ·obtain rfl:j=n:=Oo;obtain rfl:=HT.out O.out;have i1:¬((j:Int) < (j:Int)):=Oo;clear O;go_wp2_with fail
   go_ret;exact⟨rfl,rfl⟩
theorem J3{p:Int->Bool}{k:Nat}(I:k < l.length):(l.take (k+1)).filter p=if p (l.getD k 0) then (l.take k).filter p++[l.getD k 0] else (l.take k).filter p:=by
 rw[tA,bC I,List.filter_append];have e:l.getD k 0=l[k]:=by rw[gD,bC I];rfl
 rw[e];simp only[Option.toList_some];by_cases h:p l[k]=true
 ·rw[if_pos h,List.filter_cons_of_pos h];rfl
 ·rw[if_neg h,List.filter_cons_of_neg h];simp
theorem Xw(w:World)(v v2:Value)(l l2:List Int)(h:IS w v l)(hl:l.length<=1099511627776)(h2:IS w v2 l2)(a7:l2.length<=1099511627776):
 Cl 82 #[v,v2] w λe w'=>∃u,e=.returned u/\w'.ownsRow w.heap.size 3 1 u (qM l2 l).length ((qM l2 l).map (Value.int .i64))/\Bl w w':=by
 obtain⟨i0,hi,a8,a9,b7⟩:=info_parts Tryz.infoInt;obtain⟨a,cap,rfl,hc⟩:=h;have H2:=hid h2;obtain⟨a2,c9,rfl,-⟩:=h2;obtain⟨M,O⟩:∃M:Nat->List Int,M=λk=>(l.take k).filter λx=>decide (x∈l2):=⟨_,rfl⟩;have HS:Hid (∀k,k < l.length->M (k+1)=if decide (l.getD k 0∈l2) then M k++[l.getD k 0] else M k):=hid λk hk=>by rw[O];exact J3 hk
 have H0:Hid (M 0=[]):=hid (by rw[O];rfl);have HE:Hid (M l.length=qM l2 l):=hid (by rw[O];simp[qM])
 have b9:Hid (∀k,(M k).length<=k):=hid λk=>by
  rw[O];exact bQ (List.length_filter_le _ _) (by simp;omega)
 rw[<-HE.out];obtain⟨n,hn⟩:∃n,n=l.length:=⟨_,rfl⟩;rw[<-hn]at hc hl HS ⊢;have HC:=hid hc;clear hc hn O HE;go_enter Tryz.func82,Tryz.ntmps82
 go_wp2;have b0:Bl w (w.alloc (.cells #[] 3)):=(bM _ _).alloc (bK _) _;have a5:=hid b0;clear b0;go_loopw [5,11] (λv t wr=>∃k:Nat,k<=n/\t=.int .i64 k/\wr.ownsRow w.heap.size 3 1 v (M k).length ((M k).map (Value.int .i64))/\Bl w wr) (λ_ t _=>n - (intOf t).toNat)
 case atStart=>exact⟨0,nZ _,rfl,by rw[H0.out];exact oM w #[] 0 (bK _) Dd rfl,a5.out⟩
 case round=>
  clear a5;obtain⟨k,hk,rfl,I,K⟩:=hrel;have d0:=b9.out k;have c7:=K.size;by_cases a6:k < n
  ·have i1:(k:Int) < (n:Int):=Oo;rcases HC.out with h0|⟨b,o,rfl,U⟩
   ·omega
   ·have c1:=U1 K (U k a6);have HK:=hid (qU wr _ l2 (l.getD k 0) (H2.out.below K) a7);have e1:=HS.out k a6;clear U;generalize decide (l.getD k 0∈l2)=y at *;generalize l.getD k 0=x at *;cases y
    ·rw[if_neg Dd]at e1;have E1:=hid e1;clear e1;go_wp2_with fail
     refine HK.out.mono ?_;rintro e w1 ⟨rfl,c8⟩;subst w1;go_wp2_with fail
     go_roundw
     case rel=>exact⟨k+1,Oo,Gg,by rw[E1.out];exact I,K⟩
     case measure=>simp[intOf];omega
    ·rw[if_pos rfl]at e1;have E1:=hid e1;clear e1;go_wp2_with fail
     refine HK.out.mono ?_;rintro e w1 ⟨rfl,c8⟩;subst w1
     go_wp2_with (first
      |(at_builtin;refine wpList_append_own _ rfl _ _ 25 rfl w.heap.size 3 i0 (.int .i64 0) 1 8 Tryz.underlying25 hi a8 a9 b7 rfl Dd _ _ _ rfl (I.alloc _) ⟨wr.heap.size,0,none⟩ 1 1 [.int .i64 x] rfl rfl ?c1 ?c2 ?c3 ?c4 ?c5 ?_)|fail)
     case c1=>
      intro j u hj;match j,hj with
      |0,hj=>simp at hj;subst hj;simp[Addr.add]
     case c2=>intro u hu;simp at hu;subst hu;rfl
     case c3=>unfold maxLen;omega
     case c4=>omega
     case c5=>simp;omega
     intro v' w1 V a3 _;have hb:=yS c7 I K a3
     have a4:w1.ownsRow w.heap.size 3 1 v' (M (k+1)).length ((M (k+1)).map (Value.int .i64)):=by
      rw[E1.out];simpa using V
     clear V a3 I;go_wp2;go_roundw
     case rel=>exact⟨k+1,Oo,Gg,a4,hb⟩
     case measure=>simp[intOf];omega
  ·obtain rfl:k=n:=Oo;have i1:¬((k:Int) < (k:Int)):=Oo;go_wp2;go_ret;exact⟨_,rfl,I,K⟩
end Go.Proofs.YtkaipapdlnojiaaGreat
