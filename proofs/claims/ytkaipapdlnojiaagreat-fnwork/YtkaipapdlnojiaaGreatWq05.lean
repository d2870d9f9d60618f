import Derived.Deep.OwnRows
import Derived.Test.YtkaipapdlnojiaaGreatWq04
set_option maxHeartbeats 40000000
set_option maxRecDepth 1000000
namespace Go.Proofs.YtkaipapdlnojiaaGreat
open Go.RowKit
variable {a b l:List Int}{j:Nat}{v:Value}{w w' wr:World}
def IS(w:World)(v:Value)(l:List Int):Prop:=∃a cap,v=.slice a l.length cap/\(l.length=0∨∃b o,a=some ⟨b,o,none⟩/\∀j,j < l.length->w.cell? ⟨b,o+j,none⟩=some (.int .i64 (l.getD j 0)))
theorem IS.below(h:IS w v l)(hb:Bl w w'):IS w' v l:=by
 obtain⟨a,cap,rfl,h⟩:=h;refine⟨a,cap,rfl,?_⟩;rcases h with h|⟨b,o,rfl,h⟩
 ·exact Or.inl h
 ·exact Or.inr ⟨b,o,rfl,λj I=>(hb.cell (p:=⟨b,o+j,none⟩) (bL w _ (h j I))).trans (h j I)⟩
theorem UZ(z:Value)(n j:Nat)(h:j < n):(madeCells #[z] n)[j]?=some z:=by
 simp[madeCells,h,Nat.mod_one]
structure Og(g:Nat)(w w':World):Prop where
 os:w'.os=w.os
 tape:w'.tape=w.tape
 output:w'.output=w.output
 size:w'.heap.size=w.heap.size
 block:∀b,b≠g->w'.heap[b]?=w.heap[b]?
theorem Og.refl(g:Nat)(w:World):Og g w w:=⟨rfl,rfl,rfl,rfl,λ_ _=>rfl⟩
theorem Og.set{g:Nat}(h:Og g w w')(o:Nat)(v:Value):Og g w (w'.setCell ⟨g,o,none⟩ v):=
 ⟨h.os,h.tape,h.output,by simpa[World.setCell]using h.size,λb I=>(bE _ _ _ _ I).trans (h.block b I)⟩
theorem qI{a b:Bool}(h:a=b):Ending.returned (.bool a)=.returned (.bool b):=by rw[h]
def zc(l:List Int)(j:Nat):Bool:=decide (0<=l.getD j 0)&&decide (l.getD j 0 < 6)&&(decide (j=0)||decide (l.getD (j - 1) 0 < l.getD j 0))
def qL(l:List Int):Bool:=(List.range l.length).all (zc l)
theorem vj(h:∀i,i < l.length->zc l i=true):qL l=true:=by
 unfold qL;rw[bY];intro i hi;exact h i (by simpa using hi)
theorem XK(I:j < l.length)(h:zc l j=false):qL l=false:=by
 unfold qL;rw[List.all_eq_false];exact⟨j,by simpa using I,by rw[h];decide⟩
theorem XL(l:List Int)(j:Nat):
 (l.getD j 0 < 0/\zc l j=false)∨(0<=l.getD j 0/\6<=l.getD j 0/\zc l j=false)∨(0<=l.getD j 0/\l.getD j 0 < 6/\j=0/\zc l j=true)∨
 (0<=l.getD j 0/\l.getD j 0 < 6/\0 < j/\l.getD j 0<=l.getD (j - 1) 0/\zc l j=false)∨(0<=l.getD j 0/\l.getD j 0 < 6/\0 < j/\l.getD (j - 1) 0 < l.getD j 0/\zc l j=true):=by
 unfold zc;generalize l.getD j 0=x;generalize l.getD (j - 1) 0=y;by_cases K:x < 0
 ·left;refine⟨K,?_⟩;simp;omega
 ·by_cases M:6<=x
  ·right;left;refine⟨Oo,M,?_⟩;simp;omega
  ·by_cases I:j=0
   ·right;right;left;refine⟨Oo,Oo,I,?_⟩;simp[I];omega
   ·by_cases O:y < x
    ·right;right;right;right;refine⟨Oo,Oo,Oo,O,?_⟩;simp;omega
    ·right;right;right;left;refine⟨Oo,Oo,Oo,Oo,?_⟩;simp;omega
theorem xj(w:World)(v:Value)(l:List Int)(h:IS w v l)(hl:l.length<=1099511627776):
 Cl 24 #[v] w λe w'=>e=.returned (.bool (qL l))/\w'=w:=by
 obtain⟨a,cap,rfl,hc⟩:=h;obtain⟨n,hn⟩:∃n,n=l.length:=⟨_,rfl⟩;obtain⟨res,K⟩:∃r,r=qL l:=⟨_,rfl⟩;rw[<-K];have HR:=hid K;rw[<-hn]at hc hl ⊢;have HC:=hid hc;have HN:=hid hn;clear hc hn K;go_enter Tryz.func24,Tryz.ntmps24
 go_wp2;go_loop [7] (λt=>∃j:Nat,j<=n/\t=.int .i64 j/\Hid (∀i,i < j->zc l i=true)) (λt=>n - (intOf t).toNat)
 case atStart=>exact⟨0,nZ _,rfl,hid (λi hi=>Oo)⟩
 case round=>
  obtain⟨j,hj,rfl,O⟩:=hrel;by_cases a2:j < n
  ·have i1:(j:Int) < (n:Int):=Oo;rcases HC.out with h0|⟨b,o,rfl,I⟩
   ·omega
   ·have c1:w.cell? ⟨b,o+j,none⟩=some (.int .i64 (l.getD j 0)):=I j a2;have a3:=XL l j;have fin:zc l j=false->Hid (res=false):=λe=>HR.out.trans (XK (by rw[<-HN.out];exact a2) e)
    have nxt:zc l j=true->Hid (∀i,i < j+1->zc l i=true):=λe i hi=>by
     by_cases e2:i=j
     ·rw[e2];exact e
     ·exact O.out i Oo
    have c2:0 < j->w.cell? ⟨b,o+(j - 1),none⟩=some (.int .i64 (l.getD (j - 1) 0)):=λe=>I (j - 1) Oo;clear I O;generalize l.getD j 0=x at *;generalize l.getD (j - 1) 0=y at *;rcases a3 with ⟨h1,V⟩|⟨h1,V,U⟩|⟨h1,V,U,h4⟩|⟨h1,V,U,h4,h5⟩|⟨h1,V,U,h4,h5⟩
    ·have M:=fin V;clear c2 fin nxt V;go_wp2;go_ret;exact⟨qI (by rw[M.out]),rfl⟩
    ·have M:=fin U;have d1:decide (x < 0)=false:=by simp;omega
     clear c2 fin nxt U;go_wp2;go_ret;exact⟨qI (by rw[M.out]),rfl⟩
    ·have M:=nxt h4;have d1:decide (x < 0)=false:=by simp;omega
     have d2:decide (6<=x)=false:=by simp;omega
     subst U;have a4:w.cell? ⟨b,o,none⟩=some (.int .i64 x):=by simpa using c1
     clear c2 fin nxt h4;go_wp2;go_round
     case rel=>exact⟨0+1,Oo,Gg,M⟩
     case measure=>simp[intOf];omega
    ·have M:=fin h5;have d1:decide (x < 0)=false:=by simp;omega
     have d2:decide (6<=x)=false:=by simp;omega
     have c3:=c2 U;have i3:(0:Int) < (j:Int):=Oo;have i4:((j:Int) - 1).toNat=j - 1:=Oo;clear c2 fin nxt h5;go_wp2;go_ret;exact⟨qI (by rw[M.out]),rfl⟩
    ·have M:=nxt h5;have d1:decide (x < 0)=false:=by simp;omega
     have d2:decide (6<=x)=false:=by simp;omega
     have d3:decide (x<=y)=false:=by simp;omega
     have c3:=c2 U;have i3:(0:Int) < (j:Int):=Oo;have i4:((j:Int) - 1).toNat=j - 1:=Oo;clear c2 fin nxt h5;go_wp2;go_round
     case rel=>exact⟨j+1,Oo,Gg,M⟩
     case measure=>simp[intOf];omega
  ·obtain rfl:j=n:=Oo;have M:Hid (res=true):=HR.out.trans (vj (λi hi=>O.out i (by rw[HN.out];exact hi)));have i1:¬((j:Int) < (j:Int)):=Oo;clear O;go_wp2;go_ret;exact⟨qI (by rw[M.out]),rfl⟩
theorem uC(w:World)(v:Value)(l:List Int)(h:IS w v l)(hl:l.length<=1099511627776):
 Cl 15 #[v,.int .i64 6] w λe w'=>e=.returned (.bool (qL l))/\w'=w:=by
 obtain⟨a,cap,rfl,hc⟩:=h;obtain⟨n,hn⟩:∃n,n=l.length:=⟨_,rfl⟩;obtain⟨res,K⟩:∃r,r=qL l:=⟨_,rfl⟩;rw[<-K];have HR:=hid K;rw[<-hn]at hc hl ⊢;have HC:=hid hc;have HN:=hid hn;clear hc hn K;go_enter Tryz.func15,Tryz.ntmps15
 go_wp2;go_loop [9] (λt=>∃j:Nat,j<=n/\t=.int .i64 j/\Hid (∀i,i < j->zc l i=true)) (λt=>n - (intOf t).toNat)
 case atStart=>exact⟨0,nZ _,rfl,hid (λi hi=>Oo)⟩
 case round=>
  obtain⟨j,hj,rfl,O⟩:=hrel;by_cases a2:j < n
  ·have i1:(j:Int) < (n:Int):=Oo;rcases HC.out with h0|⟨b,o,rfl,I⟩
   ·omega
   ·have c1:w.cell? ⟨b,o+j,none⟩=some (.int .i64 (l.getD j 0)):=I j a2;have a3:=XL l j;have fin:zc l j=false->Hid (res=false):=λe=>HR.out.trans (XK (by rw[<-HN.out];exact a2) e)
    have nxt:zc l j=true->Hid (∀i,i < j+1->zc l i=true):=λe i hi=>by
     by_cases e2:i=j
     ·rw[e2];exact e
     ·exact O.out i Oo
    have c2:0 < j->w.cell? ⟨b,o+(j - 1),none⟩=some (.int .i64 (l.getD (j - 1) 0)):=λe=>I (j - 1) Oo;clear I O;generalize l.getD j 0=x at *;generalize l.getD (j - 1) 0=y at *;rcases a3 with ⟨h1,V⟩|⟨h1,V,U⟩|⟨h1,V,U,h4⟩|⟨h1,V,U,h4,h5⟩|⟨h1,V,U,h4,h5⟩
    ·have M:=fin V;clear c2 fin nxt V;go_wp2_with (first|(go_at_call 43;refine(jV _ _ _ _ Oo).mono ?_;rintro e w' ⟨rfl,rfl⟩))
     go_ret;exact⟨qI (by rw[M.out]),rfl⟩
    ·have M:=fin U;have d1:decide (x < 0)=false:=by simp;omega
     clear c2 fin nxt U;go_wp2_with (first|(go_at_call 43;refine(jY _ _ _ _ Oo Oo).mono ?_;rintro e w' ⟨rfl,rfl⟩))
     go_ret;exact⟨qI (by rw[M.out]),rfl⟩
    ·have M:=nxt h4;have d1:decide (x < 0)=false:=by simp;omega
     have d2:decide (6<=x)=false:=by simp;omega
     subst U;have a4:w.cell? ⟨b,o,none⟩=some (.int .i64 x):=by simpa using c1
     clear c2 fin nxt h4;go_wp2_with (first|(go_at_call 43;refine(zn _ _ _ _ Oo Oo).mono ?_;rintro e w' ⟨rfl,rfl⟩))
     go_round
     case rel=>exact⟨0+1,Oo,Gg,M⟩
     case measure=>simp[intOf];omega
    ·have M:=fin h5;have d1:decide (x < 0)=false:=by simp;omega
     have d2:decide (6<=x)=false:=by simp;omega
     have c3:=c2 U;have i3:(0:Int) < (j:Int):=Oo;have i4:((j:Int) - 1).toNat=j - 1:=Oo;clear c2 fin nxt h5;go_wp2_with (first|(go_at_call 43;refine(zn _ _ _ _ Oo Oo).mono ?_;rintro e w' ⟨rfl,rfl⟩))
     go_ret;exact⟨qI (by rw[M.out]),rfl⟩
    ·have M:=nxt h5;have d1:decide (x < 0)=false:=by simp;omega
     have d2:decide (6<=x)=false:=by simp;omega
     have d3:decide (x<=y)=false:=by simp;omega
     have c3:=c2 U;have i3:(0:Int) < (j:Int):=Oo;have i4:((j:Int) - 1).toNat=j - 1:=Oo;clear c2 fin nxt h5;go_wp2_with (first|(go_at_call 43;refine(zn _ _ _ _ Oo Oo).mono ?_;rintro e w' ⟨rfl,rfl⟩))
     go_round
     case rel=>exact⟨j+1,Oo,Gg,M⟩
     case measure=>simp[intOf];omega
  ·obtain rfl:j=n:=Oo;have M:Hid (res=true):=HR.out.trans (vj (λi hi=>O.out i (by rw[HN.out];exact hi)));have i1:¬((j:Int) < (j:Int)):=Oo;clear O;go_wp2;go_ret;exact⟨qI (by rw[M.out]),rfl⟩
theorem xz(h:j < l.length):l.getD j 0∈l:=by
 rw[gD,bC h];exact gM h
theorem zz{x:Int}(h:x∈l):∃j,j < l.length/\l.getD j 0=x:=by
 obtain⟨j,I,e⟩:=gO h;exact⟨j,I,by rw[gD,bC I];exact e⟩
theorem qU(w:World)(v:Value)(l:List Int)(x:Int)(h:IS w v l)(hl:l.length<=1099511627776):
 Cl 16 #[v,.int .i64 x] w λe w'=>e=.returned (.bool (decide (x∈l)))/\w'=w:=by
 obtain⟨a,cap,rfl,V⟩:=h;obtain⟨n,hn⟩:∃n,n=l.length:=⟨_,rfl⟩;obtain⟨res,I⟩:∃r,r=decide (x∈l):=⟨_,rfl⟩;rw[<-I];have HR:=hid I;rw[<-hn]at V hl ⊢;have HC:=hid V;have HN:=hid hn;clear V hn I;go_enter Tryz.func16,Tryz.ntmps16
 go_wp2;go_loop [9] (λt=>∃j:Nat,j<=n/\t=.int .i64 j/\Hid (∀i,i < j->l.getD i 0≠x)) (λt=>n - (intOf t).toNat)
 case atStart=>exact⟨0,nZ _,rfl,hid (λi hi=>Oo)⟩
 case round=>
  obtain⟨j,hj,rfl,M⟩:=hrel;by_cases O:j < n
  ·have i1:(j:Int) < (n:Int):=Oo;rcases HC.out with h0|⟨b,o,rfl,K⟩
   ·omega
   ·have c1:w.cell? ⟨b,o+j,none⟩=some (.int .i64 (l.getD j 0)):=K j O;have fin:l.getD j 0=x->Hid (res=true):=λe=>HR.out.trans (decide_eq_true (e ▸ xz (by rw[<-HN.out];exact O)))
    have nxt:l.getD j 0≠x->Hid (∀i,i < j+1->l.getD i 0≠x):=λe i hi=>by
     by_cases e2:i=j
     ·rw[e2];exact e
     ·exact M.out i Oo
    clear K M;generalize l.getD j 0=y at *;by_cases hy:y=x
    ·have U:=fin hy;subst hy;clear fin nxt;go_wp2;go_ret;exact⟨qI (by rw[U.out]),rfl⟩
    ·have U:=nxt hy;have d1:decide (x=y)=false:=by simp;omega
     have d2:¬(x=y):=Oo;clear fin nxt;go_wp2;go_round
     case rel=>exact⟨j+1,Oo,Gg,U⟩
     case measure=>simp[intOf];omega
  ·obtain rfl:j=n:=Oo
   have U:Hid (res=false):=HR.out.trans (decide_eq_false (λhm=>by
    obtain⟨i,hi,e⟩:=zz hm;exact M.out i (by rw[HN.out];exact hi) e))
   have i1:¬((j:Int) < (j:Int)):=Oo;clear M;go_wp2;go_ret;exact⟨qI (by rw[U.out]),rfl⟩
theorem JK(w:World)(v:Value)(l:List Int)(x:Int)(h:IS w v l)(hl:l.length<=1099511627776):
 Cl 115 #[v,.int .i64 x] w λe w'=>(∃k:Int,e=.returned (.int .i64 k)/\decide (0<=k)=decide (x∈l))/\w'=w:=by
 obtain⟨a,cap,rfl,V⟩:=h;obtain⟨n,hn⟩:∃n,n=l.length:=⟨_,rfl⟩;obtain⟨res,I⟩:∃r,r=decide (x∈l):=⟨_,rfl⟩;rw[<-I];have HR:=hid I;rw[<-hn]at V hl ⊢;have HC:=hid V;have HN:=hid hn;clear V hn I;go_enter Tryz.func115,Tryz.ntmps115
 go_wp2;go_loop [8] (λt=>∃j:Nat,j<=n/\t=.int .i64 j/\Hid (∀i,i < j->l.getD i 0≠x)) (λt=>n - (intOf t).toNat)
 case atStart=>exact⟨0,nZ _,rfl,hid (λi hi=>Oo)⟩
 case round=>
  obtain⟨j,hj,rfl,M⟩:=hrel;by_cases O:j < n
  ·have i1:(j:Int) < (n:Int):=Oo;rcases HC.out with h0|⟨b,o,rfl,K⟩
   ·omega
   ·have c1:w.cell? ⟨b,o+j,none⟩=some (.int .i64 (l.getD j 0)):=K j O;have fin:l.getD j 0=x->Hid (res=true):=λe=>HR.out.trans (decide_eq_true (e ▸ xz (by rw[<-HN.out];exact O)))
    have nxt:l.getD j 0≠x->Hid (∀i,i < j+1->l.getD i 0≠x):=λe i hi=>by
     by_cases e2:i=j
     ·rw[e2];exact e
     ·exact M.out i Oo
    clear K M;generalize l.getD j 0=y at *;by_cases hy:y=x
    ·have U:=fin hy;subst hy;clear fin nxt;go_wp2;go_ret;exact⟨⟨_,rfl,by rw[U.out];simp⟩,rfl⟩
    ·have U:=nxt hy;have d1:decide (x=y)=false:=by simp;omega
     have d2:¬(x=y):=Oo;clear fin nxt;go_wp2;go_round
     case rel=>exact⟨j+1,Oo,Gg,U⟩
     case measure=>simp[intOf];omega
  ·obtain rfl:j=n:=Oo
   have U:Hid (res=false):=HR.out.trans (decide_eq_false (λhm=>by
    obtain⟨i,hi,e⟩:=zz hm;exact M.out i (by rw[HN.out];exact hi) e))
   have i1:¬((j:Int) < (j:Int)):=Oo;clear M;go_wp2;go_ret;exact⟨⟨_,rfl,by rw[U.out];simp⟩,rfl⟩
theorem jK(w:World)(v:Value)(l:List Int)(x:Int)(h:IS w v l)(hl:l.length<=1099511627776):
 Cl 88 #[v,.int .i64 x] w λe w'=>e=.returned (.bool (decide (x∈l)))/\w'=w:=by
 have I:=hid (JK w v l x h hl);generalize decide (x∈l)=res at *;clear h;go_enter Tryz.func88,Tryz.ntmps88
 go_wp2_with (first|(go_at_call 115;refine I.out.mono ?_;rintro e w' ⟨⟨k,rfl,K⟩,rfl⟩))
 go_ret;exact⟨rfl,rfl⟩
theorem Tryz.infoInt:(Tryz.prog.info? 3).map (λi=>(i.zero,i.size,i.bytes))=some (some (.int .i64 0),1,8):=by kernel_rfl
def plc(p:Nat->Bool)(k:Nat):List Int:=((List.range k).filter p).map Int.ofNat
theorem xi(p:Nat->Bool)(k:Nat)(h:p k=true):plc p (k+1)=plc p k++[(k:Int)]:=by
 simp[plc,List.range_succ,List.filter_append,h]
theorem zy(p:Nat->Bool)(k:Nat)(h:p k=false):plc p (k+1)=plc p k:=by
 simp[plc,List.range_succ,List.filter_append,h]
theorem xK(p:Nat->Bool)(k:Nat):(plc p k).length<=k:=by
 unfold plc;rw[lM];exact bQ (List.length_filter_le _ _) Ss
theorem yS{B n:Nat}{e:TypeId}{w1:World}{u:Value}{o:Obj}{xs:List Value}(hB:B<=wr.heap.size)
 (K:wr.ownsRow B e 1 u n xs) (M:Below B w wr) (I:(wr.alloc o).grownBy w1 u.ownBlock):Below B w w1:=
 (M.alloc hB o).grown I (by simp;omega) (λj O=>(K.lt j O).1)
theorem Xt(w:World)(vb ve:Value)(bag I:List Int)(h:IS w vb bag)(he:IS w ve I)(hl:bag.length<=1099511627776)(a5:I.length<=1099511627776):
 Cl 57 #[vb,ve] w λe w'=>∃v,e=.returned v/\
  w'.ownsRow w.heap.size 3 1 v (plc (λi=>decide (bag.getD i 0∈I)) bag.length).length ((plc (λi=>decide (bag.getD i 0∈I)) bag.length).map (Value.int .i64))/\Bl w w':=by
 obtain⟨i0,hi,a6,a7,a8⟩:=info_parts Tryz.infoInt;obtain⟨p,hp⟩:∃p:Nat->Bool,p=λi=>decide (bag.getD i 0∈I):=⟨_,rfl⟩;rw[<-hp];obtain⟨a,cap,rfl,hc⟩:=h;obtain⟨n,hn⟩:∃n,n=bag.length:=⟨_,rfl⟩;rw[<-hn]at hc hl ⊢;have HP:=hid hp;have HC:=hid hc;have HN:=hid hn;have HE:=hid he;clear hp hc hn he;go_enter Tryz.func57,Tryz.ntmps57
 go_wp2;go_loopw [5,10] (λv t wr=>∃k:Nat,k<=n/\t=.int .i64 k/\wr.ownsRow w.heap.size 3 1 v (plc p k).length ((plc p k).map (Value.int .i64))/\Bl w wr) (λ_ t _=>n - (intOf t).toNat)
 case atStart=>exact⟨0,nZ _,rfl,bG _ _ _ _,bM _ _⟩
 case round=>
  obtain⟨k,hk,rfl,K,M⟩:=hrel;have b9:=xK p k;have a9:=M.size;by_cases b0:k < n
  ·have i1:(k:Int) < (n:Int):=Oo;rcases HC.out with h0|⟨b,o,rfl,O⟩
   ·omega
   ·have c0:=O k b0;have c1:wr.cell? ⟨b,o+k,none⟩=some (.int .i64 (bag.getD k 0)):=(M.cell (p:=⟨b,o+k,none⟩) (bL w _ c0)).trans c0;have HK:=hid (jK wr ve I (bag.getD k 0) (HE.out.below M) a5);have a3:p k=decide (bag.getD k 0∈I):=by rw[HP.out]
    rw[<-a3]at HK;clear O c0 a3;generalize bag.getD k 0=y at *;by_cases hy:p k=true
    ·have e1:=hid (xi p k hy);rw[hy]at HK
     go_wp2_with (first
      |(go_at_call 88;refine HK.out.mono ?_;rintro e w' ⟨rfl,b7⟩;subst w')
      |(at_builtin;refine wpList_append_own _ rfl _ _ 25 rfl w.heap.size 3 i0 (.int .i64 0) 1 8 Tryz.underlying25 hi a6 a7 a8 rfl Dd _ _ _ rfl (K.alloc _) ⟨wr.heap.size,0,none⟩ 1 1 [.int .i64 k] rfl rfl ?c1 ?c2 ?c3 ?c4 ?c5 ?_))
     case c1=>
      intro j u hj;match j,hj with
      |0,hj=>simp at hj;subst hj;simp[Addr.add]
     case c2=>intro u hu;simp at hu;subst hu;rfl
     case c3=>unfold maxLen;omega
     case c4=>omega
     case c5=>simp;omega
     intro v' w1 U V _;have hb:=yS a9 K M V
     have a2:w1.ownsRow w.heap.size 3 1 v' (plc p (k+1)).length ((plc p (k+1)).map (Value.int .i64)):=by
      rw[e1.out];simpa using U
     clear U V K;go_wp2;go_roundw
     case rel=>exact⟨k+1,Oo,Gg,a2,hb⟩
     case measure=>simp[intOf];omega
    ·have a4:p k=false:=by simpa using hy
     have e1:=hid (zy p k a4);rw[a4]at HK
     go_wp2_with (first
      |(go_at_call 88;refine HK.out.mono ?_;rintro e w' ⟨rfl,b7⟩;subst w'))
     go_roundw
     case rel=>exact⟨k+1,Oo,Gg,by rw[e1.out];exact K,M⟩
     case measure=>simp[intOf];omega
  ·obtain rfl:k=n:=Oo;have i1:¬((k:Int) < (k:Int)):=Oo;go_wp2;go_ret;exact⟨_,rfl,K,M⟩
def ISS(w:World)(v:Value)(ls:List (List Int)):Prop:=∃a cap,v=.slice a ls.length cap/\(ls.length=0∨∃b o,a=some ⟨b,o,none⟩/\∀j,j < ls.length->∃u,w.cell? ⟨b,o+j,none⟩=some u/\IS w u (ls.getD j []))
theorem ISS.below{ls:List (List Int)}(h:ISS w v ls)(hb:Bl w w'):ISS w' v ls:=by
 obtain⟨a,cap,rfl,h⟩:=h;refine⟨a,cap,rfl,?_⟩;rcases h with h|⟨b,o,rfl,h⟩
 ·exact Or.inl h
 ·refine Or.inr ⟨b,o,rfl,λj K=>?_⟩;obtain⟨u,I,M⟩:=h j K;exact⟨u,(hb.cell (p:=⟨b,o+j,none⟩) (bL w _ I)).trans I,M.below hb⟩
def zS(ls:List (List Int)):Prop:=ls.length<=1099511627776/\∀j,(ls.getD j []).length<=1099511627776
theorem yi(w:World)(ve:Value)(x:Int)(es:List (List Int))(h:ISS w ve es)(hl:zS es):
 Cl 51 #[.int .i64 x,ve] w λe w'=>∃v,e=.returned v/\
  w'.ownsRow w.heap.size 3 1 v (plc (λi=>decide (x∈es.getD i [])) es.length).length ((plc (λi=>decide (x∈es.getD i [])) es.length).map (Value.int .i64))/\Bl w w':=by
 obtain⟨i0,hi,a5,a6,a7⟩:=info_parts Tryz.infoInt;obtain⟨p,hp⟩:∃p:Nat->Bool,p=λi=>decide (x∈es.getD i []):=⟨_,rfl⟩;rw[<-hp];obtain⟨a,cap,rfl,hc⟩:=h;obtain⟨a8,a2⟩:=hl;obtain⟨n,hn⟩:∃n,n=es.length:=⟨_,rfl⟩;rw[<-hn]at hc a8 ⊢;have HP:=hid hp;have HC:=hid hc;have HN:=hid hn;have HL:=hid a2;clear hp hc hn a2;go_enter Tryz.func51,Tryz.ntmps51
 go_wp2;go_loopw [5,10] (λv t wr=>∃k:Nat,k<=n/\t=.int .i64 k/\wr.ownsRow w.heap.size 3 1 v (plc p k).length ((plc p k).map (Value.int .i64))/\Bl w wr) (λ_ t _=>n - (intOf t).toNat)
 case atStart=>exact⟨0,nZ _,rfl,bG _ _ _ _,bM _ _⟩
 case round=>
  obtain⟨k,hk,rfl,I,K⟩:=hrel;have b9:=xK p k;have a9:=K.size;by_cases b0:k < n
  ·have i1:(k:Int) < (n:Int):=Oo;rcases HC.out with h0|⟨b,o,rfl,M⟩
   ·omega
   ·obtain⟨u,c0,hu⟩:=M k b0;have c1:wr.cell? ⟨b,o+k,none⟩=some u:=(K.cell (p:=⟨b,o+k,none⟩) (bL w _ c0)).trans c0;have HK:=hid (jK wr u (es.getD k []) x (hu.below K) (HL.out k));have a3:p k=decide (x∈es.getD k []):=by rw[HP.out]
    rw[<-a3]at HK;obtain⟨a1,c7,rfl,-⟩:=hu;clear M c0 a3;generalize (es.getD k []).length=m at *;by_cases hy:p k=true
    ·have e1:=hid (xi p k hy);rw[hy]at HK
     go_wp2_with (first
      |(go_at_call 88;refine HK.out.mono ?_;rintro e w' ⟨rfl,b7⟩;subst w')
      |(at_builtin;refine wpList_append_own _ rfl _ _ 25 rfl w.heap.size 3 i0 (.int .i64 0) 1 8 Tryz.underlying25 hi a5 a6 a7 rfl Dd _ _ _ rfl (I.alloc _) ⟨wr.heap.size,0,none⟩ 1 1 [.int .i64 k] rfl rfl ?c1 ?c2 ?c3 ?c4 ?c5 ?_))
     case c1=>
      intro j u hj;match j,hj with
      |0,hj=>simp at hj;subst hj;simp[Addr.add]
     case c2=>intro u hu;simp at hu;subst hu;rfl
     case c3=>unfold maxLen;omega
     case c4=>omega
     case c5=>simp;omega
     intro v' w1 O U _;have hb:=yS a9 I K U
     have V:w1.ownsRow w.heap.size 3 1 v' (plc p (k+1)).length ((plc p (k+1)).map (Value.int .i64)):=by
      rw[e1.out];simpa using O
     clear O U I;go_wp2;go_roundw
     case rel=>exact⟨k+1,Oo,Gg,V,hb⟩
     case measure=>simp[intOf];omega
    ·have a4:p k=false:=by simpa using hy
     have e1:=hid (zy p k a4);rw[a4]at HK
     go_wp2_with (first
      |(go_at_call 88;refine HK.out.mono ?_;rintro e w' ⟨rfl,b7⟩;subst w'))
     go_roundw
     case rel=>exact⟨k+1,Oo,Gg,by rw[e1.out];exact I,K⟩
     case measure=>simp[intOf];omega
  ·obtain rfl:k=n:=Oo;have i1:¬((k:Int) < (k:Int)):=Oo;go_wp2;go_ret;exact⟨_,rfl,I,K⟩
theorem zj(k:Nat)(h:∃m,wr=w.drewN m):∃m,wr.drewN k=w.drewN m:=by
 obtain⟨m,rfl⟩:=h;exact⟨m+k,World.drewN_drewN _ _ _⟩
def cmpL:List Int->List Int->Int
 |[],[]=>0
 |[],_::_=>-1
 |_::_,[]=>1
 |x::a,y::b=>if x < y then -1 else if y < x then 1 else cmpL a b
theorem zl(h:j < l.length):l.drop j=l.getD j 0::l.drop (j+1):=by
 rw[gD,bC h];exact List.drop_eq_getElem_cons h
theorem vV(a b:List Int):∀j,j<=a.length->j<=b.length->(∀i,i < j->a.getD i 0=b.getD i 0)->cmpL a b=cmpL (a.drop j) (b.drop j):=by
 intro j;induction j with
 |zero=>intros;simp
 |succ j ih=>
  intro K M I;rw[ih Oo Oo (λi hi=>I i Oo),zl (show j < a.length by omega),zl (show j < b.length by omega),I j Oo];simp[cmpL]
theorem Kr(I:j < a.length)(K:j < b.length)(M:∀i,i < j->a.getD i 0=b.getD i 0)(O:a.getD j 0 < b.getD j 0):cmpL a b=-1:=by
 rw[vV a b j Oo Oo M,zl I,zl K];simp only[cmpL];rw[if_pos O]
theorem XW(I:j < a.length)(K:j < b.length)(M:∀i,i < j->a.getD i 0=b.getD i 0)(O:b.getD j 0 < a.getD j 0):cmpL a b=1:=by
 rw[vV a b j Oo Oo M,zl I,zl K];simp only[cmpL];rw[if_neg Oo,if_pos O]
theorem Ze(I:a.length < b.length)(K:∀i,i < a.length->a.getD i 0=b.getD i 0):cmpL a b=-1:=by
 rw[vV a b a.length Oo Oo K,zl I,List.drop_length];rfl
theorem YQ(I:b.length < a.length)(K:∀i,i < b.length->a.getD i 0=b.getD i 0):cmpL a b=1:=by
 rw[vV a b b.length Oo Oo K,zl I,List.drop_length];rfl
theorem YR(I:a.length=b.length)(K:∀i,i < a.length->a.getD i 0=b.getD i 0):cmpL a b=0:=by
 rw[vV a b a.length Oo Oo K,List.drop_length,I,List.drop_length];rfl
def qCl(x y:Int):Int:=if x < y then -1 else if y < x then 1 else 0
theorem Vz(w:World)(x y:Int):
 Cl 137 #[.int .i64 x,.int .i64 y] w λe w'=>e=.returned (.int .i64 (qCl x y))/\w'=w:=by
 have M:(x != x)=false:=Ss;have O:(y != y)=false:=Ss;unfold qCl;by_cases I:x < y
 ·rw[if_pos I];go_enter Tryz.func137,Tryz.ntmps137
  go_wp2;go_ret;exact⟨rfl,rfl⟩
 ·rw[if_neg I];by_cases K:y < x
  ·rw[if_pos K];go_enter Tryz.func137,Tryz.ntmps137
   go_wp2;go_ret;exact⟨rfl,rfl⟩
  ·rw[if_neg K];go_enter Tryz.func137,Tryz.ntmps137
   go_wp2;go_ret;exact⟨rfl,rfl⟩
theorem Zf{I lb:List Int}(h:∀i,i < j->I.getD i 0=lb.getD i 0)(e:I.getD j 0=lb.getD j 0):∀i,i < j+1->I.getD i 0=lb.getD i 0:=λi hi=>by
 by_cases K:i=j
 ·rw[K];exact e
 ·exact h i Oo
theorem yr(w:World)(va vb:Value)(U lb:List Int)(ha:IS w va U)(hb:IS w vb lb)(hl:U.length<=1099511627776)(a5:lb.length<=1099511627776):
 Cl 119 #[va,vb] w λe w'=>e=.returned (.int .i64 (cmpL U lb))/\w'=w:=by
 obtain⟨a,cap,rfl,hc⟩:=ha;obtain⟨a',a7,rfl,a3⟩:=hb;obtain⟨n,hn⟩:∃n,n=U.length:=⟨_,rfl⟩;obtain⟨m,hm⟩:∃m,m=lb.length:=⟨_,rfl⟩;obtain⟨res,V⟩:∃r,r=cmpL U lb:=⟨_,rfl⟩;rw[<-V];rw[<-hn]at hc hl ⊢;rw[<-hm]at a3 a5 ⊢;have HR:=hid V;have HC:=hid hc;have a6:=hid a3;have HN:=hid hn;have HM:=hid hm;clear hc a3 hn hm V;go_enter Tryz.func119,Tryz.ntmps119
 go_wp2;go_loop [11] (λt=>∃j:Nat,j<=n/\j<=m/\t=.int .i64 j/\Hid (∀i,i < j->U.getD i 0=lb.getD i 0)) (λt=>n - (intOf t).toNat)
 case atStart=>exact⟨0,nZ _,nZ _,rfl,hid (λi hi=>Oo)⟩
 case round=>
  obtain⟨j,hj,a8,rfl,I⟩:=hrel;by_cases a2:j < n
  ·have i1:(j:Int) < (n:Int):=Oo;rcases HC.out with h0|⟨b,o,rfl,M⟩
   ·omega
   ·have c1:w.cell? ⟨b,o+j,none⟩=some (.int .i64 (U.getD j 0)):=M j a2;by_cases K:j < m
    ·have i2:¬((m:Int)<=(j:Int)):=Oo;rcases a6.out with h0|⟨b',o',rfl,O⟩
     ·omega
     ·have c2:w.cell? ⟨b',o'+j,none⟩=some (.int .i64 (lb.getD j 0)):=O j K;have HK:=hid (Vz w (U.getD j 0) (lb.getD j 0));have f1:U.getD j 0 < lb.getD j 0->Hid (res=-1):=λe=>HR.out.trans (Kr (by rw[<-HN.out];exact a2) (by rw[<-HM.out];exact K) I.out e);have f2:lb.getD j 0 < U.getD j 0->Hid (res=1):=λe=>HR.out.trans (XW (by rw[<-HN.out];exact a2) (by rw[<-HM.out];exact K) I.out e);have f3:U.getD j 0=lb.getD j 0->Hid (∀i,i < j+1->U.getD i 0=lb.getD i 0):=Zf I.out;clear M O I;unfold qCl at HK;generalize U.getD j 0=x at *;generalize lb.getD j 0=y at *;by_cases h1:x < y
      ·have hf:=f1 h1;rw[if_pos h1]at HK;clear f1 f2 f3;go_wp2_with (first|(go_at_call 137;refine HK.out.mono ?_;rintro e w' ⟨rfl,a4⟩;subst w'))
       go_ret;exact⟨qv hf.out.symm,rfl⟩
      ·by_cases h2:y < x
       ·have hf:=f2 h2;rw[if_neg h1,if_pos h2]at HK;clear f1 f2 f3;go_wp2_with (first|(go_at_call 137;refine HK.out.mono ?_;rintro e w' ⟨rfl,a4⟩;subst w'))
        go_ret;exact⟨qv hf.out.symm,rfl⟩
       ·have hf:=f3 Oo;rw[if_neg h1,if_neg h2]at HK;clear f1 f2 f3;go_wp2_with (first|(go_at_call 137;refine HK.out.mono ?_;rintro e w' ⟨rfl,a4⟩;subst w'))
        go_round
        case rel=>exact⟨j+1,Oo,Oo,Gg,hf⟩
        case measure=>simp[intOf];omega
    ·have i2:(m:Int)<=(j:Int):=Oo;obtain rfl:j=m:=Oo;have hf:Hid (res=1):=HR.out.trans (YQ (by rw[<-HN.out,<-HM.out];exact a2) (by rw[<-HM.out];exact I.out));clear M I;go_wp2;go_ret;exact⟨qv hf.out.symm,rfl⟩
  ·obtain rfl:j=n:=Oo;have i1:¬((j:Int) < (j:Int)):=Oo;by_cases K:j < m
   ·have i2:(j:Int) < (m:Int):=Oo;have hf:Hid (res=-1):=HR.out.trans (Ze (by rw[<-HN.out,<-HM.out];exact K) (by rw[<-HN.out];exact I.out));clear I;go_wp2;go_ret;exact⟨qv hf.out.symm,rfl⟩
   ·have i2:¬((j:Int) < (m:Int)):=Oo;have hf:Hid (res=0):=HR.out.trans (YR (by rw[<-HN.out,<-HM.out];omega) (by rw[<-HN.out];exact I.out));clear I;go_wp2;go_ret;exact⟨qv hf.out.symm,rfl⟩
theorem zB(w:World)(va vb:Value)(O lb:List Int)(ha:IS w va O)(hb:IS w vb lb)(hl:O.length<=1099511627776)(a4:lb.length<=1099511627776):
 Cl 81 #[va,vb] w λe w'=>e=.returned (.int .i64 (cmpL O lb))/\∃q,w'=w.drewN q:=by
 obtain⟨a,cap,rfl,hc⟩:=ha;obtain⟨a',a6,rfl,a3⟩:=hb;obtain⟨n,hn⟩:∃n,n=O.length:=⟨_,rfl⟩;obtain⟨m,hm⟩:∃m,m=lb.length:=⟨_,rfl⟩;obtain⟨res,U⟩:∃r,r=cmpL O lb:=⟨_,rfl⟩;rw[<-U];rw[<-hn]at hc hl ⊢;rw[<-hm]at a3 a4 ⊢;have HR:=hid U;have HC:=hid hc;have a5:=hid a3;have HN:=hid hn;have HM:=hid hm;clear hc a3 hn hm U;go_enter Tryz.func81,Tryz.ntmps81
 go_wp2;go_loopw [5] (λt wr=>∃j:Nat,j<=n/\j<=m/\t=.int .i64 j/\Hid (∃q,wr=w.drewN q)/\Hid (∀i,i < j->O.getD i 0=lb.getD i 0)) (λt _=>n - (intOf t).toNat)
 case atStart=>exact⟨0,nZ _,nZ _,rfl,hid ⟨0,rfl⟩,hid (λi hi=>Oo)⟩
 case round=>
  obtain⟨j,hj,a7,rfl,hB,I⟩:=hrel;by_cases a2:j < n
  ·have i1:(j:Int) < (n:Int):=Oo;by_cases K:j < m
   ·have i2:(j:Int) < (m:Int):=Oo;rcases HC.out with h0|⟨b,o,rfl,V⟩
    ·omega
    ·have c1:wr.cell? ⟨b,o+j,none⟩=some (.int .i64 (O.getD j 0)):=by obtain⟨m,rfl⟩:=hB.out;exact V j a2
     rcases a5.out with h0|⟨b',o',rfl,M⟩
     ·omega
     ·have c2:wr.cell? ⟨b',o'+j,none⟩=some (.int .i64 (lb.getD j 0)):=by obtain⟨m,rfl⟩:=hB.out;exact M j K
      have f1:O.getD j 0 < lb.getD j 0->Hid (res=-1):=λe=>HR.out.trans (Kr (by rw[<-HN.out];exact a2) (by rw[<-HM.out];exact K) I.out e);have f2:lb.getD j 0 < O.getD j 0->Hid (res=1):=λe=>HR.out.trans (XW (by rw[<-HN.out];exact a2) (by rw[<-HM.out];exact K) I.out e);have f3:O.getD j 0=lb.getD j 0->Hid (∀i,i < j+1->O.getD i 0=lb.getD i 0):=Zf I.out;clear V M I;generalize O.getD j 0=x at *;generalize lb.getD j 0=y at *;by_cases h1:x < y
      ·have hf:=f1 h1;clear f1 f2 f3;go_wp2_with fail
       go_quiet (fail)
       go_wp2;go_ret;exact⟨qv hf.out.symm,zj _ hB.out⟩
      ·by_cases h2:y < x
       ·have hf:=f2 h2;clear f1 f2 f3;go_wp2_with fail
        go_quiet (fail)
        go_wp2_with fail
        go_quiet (fail)
        go_wp2;go_ret;exact⟨qv hf.out.symm,zj _ (zj _ hB.out)⟩
       ·have hf:=f3 Oo;clear f1 f2 f3;go_wp2_with fail
        go_quiet (fail)
        go_wp2_with fail
        go_quiet (fail)
        go_wp2;go_roundw
        case rel=>exact⟨j+1,Oo,Oo,Gg,hid (zj _ hB.out),hf⟩
        case measure=>simp[intOf];omega
   ·obtain rfl:j=m:=Oo;have i2:¬((j:Int) < (j:Int)):=Oo;have i3:¬((n:Int)=(j:Int)):=Oo;have i4:¬((n:Int) < (j:Int)):=Oo;have hf:Hid (res=1):=HR.out.trans (YQ (by rw[<-HN.out,<-HM.out];exact a2) (by rw[<-HM.out];exact I.out));clear I;go_wp2;go_ret;exact⟨qv hf.out.symm,hB.out⟩
  ·obtain rfl:j=n:=Oo;have i1:¬((j:Int) < (j:Int)):=Oo;by_cases K:j < m
   ·have i2:(j:Int) < (m:Int):=Oo;have i3:¬((j:Int)=(m:Int)):=Oo;have hf:Hid (res=-1):=HR.out.trans (Ze (by rw[<-HN.out,<-HM.out];exact K) (by rw[<-HN.out];exact I.out));clear I;go_wp2;go_ret;exact⟨qv hf.out.symm,hB.out⟩
   ·obtain rfl:j=m:=Oo;have hf:Hid (res=0):=HR.out.trans (YR (by rw[<-HN.out,<-HM.out]) (by rw[<-HN.out];exact I.out));clear I;go_wp2;go_ret;exact⟨qv hf.out.symm,hB.out⟩
end Go.Proofs.YtkaipapdlnojiaaGreat
