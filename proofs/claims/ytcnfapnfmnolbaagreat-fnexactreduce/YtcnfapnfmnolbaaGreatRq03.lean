import Derived.Deep.OwnRows
import Derived.Test.YtcnfapnfmnolbaaGreatRq02
set_option maxHeartbeats 40000000
set_option maxRecDepth 1000000
namespace Go.Proofs.YtcnfapnfmnolbaaGreat
open Go.RowKit
variable {l:LI}{ls:LL}{g j n:Nat}{v:Value}{w w' w1 wr:World}
def IS(w:World)(v:Value)(l:LI):Prop:=∃a cap,v=.slice a l.length cap/\(l.length=0∨∃b o,a=some (az b o)/\∀j,j<l.length->w.cell? (az b (o+j))=some (ai (l.getD j 0)))
theorem IS.below(h:IS w v l)(hb:Bl w w'):IS w' v l:=by
 obtain⟨a,cap,rfl,h⟩:=h;refine⟨a,cap,rfl,?_⟩;rcases h with h|⟨b,o,rfl,h⟩;exact Or.inl h;exact Or.inr ⟨b,o,rfl,λj I=>(hb.cell (p:=(az b (o+j))) (bL w _ (h j I))).trans (h j I)⟩
structure OwnI(w:World)(g:Nat)(l:LI):Prop where
 cell:∀j,j<l.length->w.cell? (az g j)=some (ai (l.getD j 0))
 free:∀j,j<l.length->w.frozen? (az g j)=false
 lt:g<w.1.size
theorem OwnI.is(h:OwnI w g l):IS w (.slice (some (az g 0)) l.length l.length) l:=
 ⟨_,_,rfl,Or.inr ⟨g,0,rfl,λj I=>by rw[Nat.zero_add];exact h.cell j I⟩⟩
theorem OwnI.move(h:OwnI w g l)(hb:w'.1[g]?=w.1[g]?)(hs:w.1.size<=w'.1.size):OwnI w' g l:=
 ⟨λj I=>(bF (w:=w) (a:=(az g j)) hb).trans (h.cell j I),λj I=>(World.frozen?_of_block (w:=w) (a:=(az g j)) hb).trans (h.free j I),bN h.lt hs⟩
theorem OwnI.below(h:OwnI w g l)(hb:Bl w w'):OwnI w' g l:=h.move (hb.block g h.lt) hb.size
theorem JL(z:Value)(n j:Nat)(h:j<n):(madeCells #[z] n)[j]?=some z:=by
 simp[madeCells,h,Nat.mod_one]
theorem yM(w:World)(v:Value)(l:LI)(h:IS w v l)(hl:l.length<=1099511627776):
 Cl 26 #[v] w λe w'=>e=.returned (.slice (some (az w.1.size 0)) l.length l.length)/\OwnI w' w.1.size l/\Bl w w':=by
 obtain⟨a,cap,rfl,hc⟩:=h;obtain⟨n,hn⟩:=Ex l.length;rw[<-hn]at hc hl ⊢;have a6:=run_make_row' (P:=Tryz.prog) 24 3 (ai 0) 8 Tryz.underlying24 Kl rfl .i64 .i64 n Oo Oo;have M:=heap_alloc_new w (.cells (madeCells #[ai 0] n) 3);have U:∀j,j<n->(w.alloc (.cells (madeCells #[ai 0] n) 3)).cell? (az w.1.size j)=some (ai 0):=λj hj=>by rw[cell_of_row _ _ _ _ _ _ M];exact JL _ _ _ hj
 have V:∀j,(w.alloc (.cells (madeCells #[ai 0] n) 3)).frozen? (az w.1.size j)=false:=λj=>by unfold World.frozen?;rw[M];simp
 have a4:=ay U;have a5:=ay V;clear U V M;have HC:=ay hc;have HN:=ay hn;clear hc hn;go_enter Tryz.func26,Tryz.ntmps26;go_wp2;go_loopw [4] (λt wr=>∃j:Nat,j<=n/\t=ai j/\Bl w wr/\w.1.size<wr.1.size/\Hh ((∀i,i<n->wr.cell? (az w.1.size i)=some (ai (if i<j then l.getD i 0 else 0)))/\∀i,i<n->wr.frozen? (az w.1.size i)=false)) (λt _=>n-(intOf t).toNat);exact⟨0,nZ _,rfl,aK,Ss,ay ⟨λi hi=>by rw[if_neg Oo];exact a4.o i hi,λi _=>a5.o i⟩⟩;obtain⟨j,hj,rfl,hB,a3,O⟩:=hrel;by_cases K:j<n
 ·have i1:(j:Int)<(n:Int):=Oo;rcases HC.o with h0|⟨b,o,rfl,I⟩;omega;have c1:wr.cell? (az b (o+j))=some (ai (l.getD j 0)):=(hB.cell (p:=(az b (o+j))) (bL w _ (I j K))).trans (I j K);have c2:wr.cell? (az w.1.size j)=some (ai (if j<j then l.getD j 0 else 0)):=O.o.1 j K;have c3:wr.frozen? (az w.1.size j)=false:=O.o.2 j K;clear I;go_wp2;go_roundw
  case rel=>
   refine⟨j+1,Oo,Gg,hB.setCell (nR _) _,by simpa using a3,ay ⟨λi hi=>?_,λi hi=>by rw[fS];exact O.o.2 i hi⟩⟩;by_cases e:i=j;subst e;rw[if_pos Oo];exact bG _ _ _ c2;rw[bC _ _ _ _ (by intro e2;simp only[Addr.mk.injEq]at e2;omega),O.o.1 i hi];by_cases e2:i<j;rw[if_pos e2,if_pos Oo];rw[if_neg e2,if_neg Oo]
  case measure=>simp[intOf];omega
 obtain rfl:j=n:=Oo;have i1:¬((j:Int)<(j:Int)):=Oo;go_wp2;go_ret;refine⟨rfl,⟨λi hi=>?_,λi hi=>O.o.2 i (by rw[HN.o];exact hi),a3⟩,hB⟩;rw[O.o.1 i (by rw[HN.o];exact hi),if_pos (by rw[HN.o];exact hi)]
theorem yN(w:World)(a:Option Addr)(n cap:Nat)(left:Int)(K:0<=left)(M:left<=1048576)(O:n<=9223372036854775807):
 Cl 17 #[.slice a n cap,ai left] w λe w'=>e=.returned (ai (if left<n then -1 else left-n))/\w'=w:=by
 by_cases h:left<n
 ·rw[if_pos h];have I:left-(n:Int)<0:=Oo;go_enter Tryz.func17,Tryz.ntmps17;go_wp2;go_ret;exact⟨rfl,rfl⟩
 rw[if_neg h];have I:¬(left-(n:Int)<0):=Oo;go_enter Tryz.func17,Tryz.ntmps17;go_wp2;go_ret;exact⟨rfl,rfl⟩
theorem Zu(w:World)(v v':Value)(l:LI)(h:IS w v l)(h':IS w v' l)(hl:l.length<=1099511627776):
 Cl 35 #[v,v'] w λe w'=>e=.returned (.bool true)/\Bl w w':=by
 obtain⟨a,cap,rfl,U⟩:=h;obtain⟨a',a3,rfl,O⟩:=h';obtain⟨n,hn⟩:=Ex l.length;rw[<-hn]at U O hl ⊢;have HC:=ay U;have V:=ay O;clear U O hn;have a4:((n:Int) != (n:Int))=false:=Ss;go_enter Tryz.func35,Tryz.ntmps35;go_wp2;go_loopw [5] (λt wr=>∃j:Nat,j<=n/\t=ai j/\Bl w wr) (λt _=>n-(intOf t).toNat);exact⟨0,nZ _,rfl,bJ _ _⟩;obtain⟨j,hj,rfl,hB⟩:=hrel;by_cases M:j<n
 ·have i1:(j:Int)<(n:Int):=Oo;rcases HC.o with h0|⟨b,o,rfl,K⟩;omega;rcases V.o with h0|⟨b',o',rfl,I⟩;omega;have c1:wr.cell? (az b (o+j))=some (ai (l.getD j 0)):=(hB.cell (p:=(az b (o+j))) (bL w _ (K j M))).trans (K j M);have c2:wr.cell? (az b' (o'+j))=some (ai (l.getD j 0)):=(hB.cell (p:=(az b' (o'+j))) (bL w _ (I j M))).trans (I j M);obtain⟨x,hx⟩:=Ex (l.getD j 0);rw[<-hx]at c1 c2;have a5:(x != x)=false:=Ss;clear K I hx;go_wp2_with fail;go_quiet (fail)
  go_wp2;go_roundw;exact⟨j+1,Oo,Gg,below_drewN hB _⟩;exact Im
 obtain rfl:j=n:=Oo;have i1:¬((j:Int)<(j:Int)):=Oo;go_wp2;go_ret;exact⟨rfl,hB⟩
def kB(k:Int)(n:Nat):LI:=(List.range n).map λi=>k+(i:Nat)
theorem uf(k:Int)(n:Nat):(kB k n).length=n:=by simp[kB]
theorem Xy{k:Int}(h:j<n):(kB k n).getD j 0=k+(j:Nat):=by
 unfold kB;rw[gD,bK,List.getElem?_range h];rfl
structure Og(g:Nat)(w w':World):Prop where
 os:w'.os=w.os
 tape:w'.tape=w.tape
 output:w'.output=w.output
 size:w'.1.size=w.1.size
 block:∀b,b≠g->w'.1[b]?=w.1[b]?
theorem Og.refl(g:Nat)(w:World):Og g w w:=⟨rfl,rfl,rfl,rfl,λ_ _=>rfl⟩
theorem Og.set(h:Og g w w')(o:Nat)(v:Value):Og g w (w'.setCell (az g o) v):=
 ⟨h.os,h.tape,h.output,by simpa[World.setCell]using h.size,λb I=>(bD _ _ _ _ I).trans (h.block b I)⟩
theorem Og.below{N:Nat}(h:Og g w w')(I:N<=g):Below N w w':=
 ⟨h.os,h.tape,h.output,Nat.le_of_eq h.size.symm,λb hb=>h.block b Oo⟩
theorem qK{a b:Bool}(h:a=b):Ending.returned (.bool a)=.returned (.bool b):=by rw[h]
def xD(l:LI)(j:Nat):Bool:=decide (0<=l.getD j 0)&&decide (l.getD j 0<6)&&(decide (j=0)||decide (l.getD (j-1) 0<l.getD j 0))
def qV(l:LI):Bool:=(List.range l.length).all (xD l)
theorem js(h:∀i,i<l.length->xD l i=true):qV l=true:=by
 unfold qV;rw[aT];intro i hi;exact h i (by simpa using hi)
theorem YU(I:j<l.length)(h:xD l j=false):qV l=false:=by
 unfold qV;rw[List.all_eq_false];exact⟨j,by simpa using I,by rw[h];decide⟩
theorem YV(l:LI)(j:Nat):
 (l.getD j 0<0/\xD l j=false)∨(0<=l.getD j 0/\6<=l.getD j 0/\xD l j=false)∨(0<=l.getD j 0/\l.getD j 0<6/\j=0/\xD l j=true)∨
 (0<=l.getD j 0/\l.getD j 0<6/\0<j/\l.getD j 0<=l.getD (j-1) 0/\xD l j=false)∨(0<=l.getD j 0/\l.getD j 0<6/\0<j/\l.getD (j-1) 0<l.getD j 0/\xD l j=true):=by
 unfold xD;generalize l.getD j 0=x;generalize l.getD (j-1) 0=y;by_cases K:x<0;left;refine⟨K,?_⟩;simp;omega;by_cases M:6<=x;right;left;refine⟨Oo,M,?_⟩;simp;omega;by_cases I:j=0;right;right;left;refine⟨Oo,Oo,I,?_⟩;simp[I];omega;by_cases O:y<x;right;right;right;right;refine⟨Oo,Oo,Oo,O,?_⟩;simp;omega;right;right;right;left;refine⟨Oo,Oo,Oo,Oo,?_⟩;simp;omega
theorem zd(w:World)(v:Value)(l:LI)(h:IS w v l)(hl:l.length<=1099511627776):
 Cl 97 #[v] w λe w'=>e=.returned (.bool (qV l))/\w'=w:=by
 obtain⟨a,cap,rfl,hc⟩:=h;obtain⟨n,hn⟩:=Ex l.length;obtain⟨res,K⟩:=Ex (qV l);rw[<-K];have HR:=ay K;rw[<-hn]at hc hl ⊢;have HC:=ay hc;have HN:=ay hn;clear hc hn K;go_enter Tryz.func97,Tryz.ntmps97;go_wp2;go_loop [7] (λt=>∃j:Nat,j<=n/\t=ai j/\Hh (∀i,i<j->xD l i=true)) (λt=>n-(intOf t).toNat);exact⟨0,nZ _,rfl,ay (λi hi=>Oo)⟩;obtain⟨j,hj,rfl,O⟩:=hrel;by_cases a3:j<n
 ·have i1:(j:Int)<(n:Int):=Oo;rcases HC.o with h0|⟨b,o,rfl,I⟩;omega;have c1:w.cell? (az b (o+j))=some (ai (l.getD j 0)):=I j a3;have a4:=YV l j;have fin:xD l j=false->Hh (res=false):=λe=>HR.o.trans (YU (by rw[<-HN.o];exact a3) e);have nxt:xD l j=true->Hh (∀i,i<j+1->xD l i=true):=λe i hi=>by
   by_cases e2:i=j;rw[e2];exact e;exact O.o i Oo
  have c2:0<j->w.cell? (az b (o+(j-1)))=some (ai (l.getD (j-1) 0)):=λe=>I (j-1) Oo;clear I O;generalize l.getD j 0=x at *;generalize l.getD (j-1) 0=y at *;rcases a4 with ⟨h1,V⟩|⟨h1,V,U⟩|⟨h1,V,U,h4⟩|⟨h1,V,U,h4,h5⟩|⟨h1,V,U,h4,h5⟩
  ·have M:=fin V;clear c2 fin nxt V;go_wp2;go_ret;exact⟨qK (by rw[M.o]),rfl⟩
  ·have M:=fin U;have d1:decide (x<0)=false:=Sy;clear c2 fin nxt U;go_wp2;go_ret;exact⟨qK (by rw[M.o]),rfl⟩
  ·have M:=nxt h4;have d1:decide (x<0)=false:=Sy;have d2:decide (6<=x)=false:=Sy;subst U;have a5:w.cell? (az b o)=some (ai x):=by simpa using c1
   clear c2 fin nxt h4;go_wp2;go_round;exact⟨0+1,Oo,Gg,M⟩;exact Im
  ·have M:=fin h5;have d1:decide (x<0)=false:=Sy;have d2:decide (6<=x)=false:=Sy;have c3:=c2 U;have i3:(0:Int)<(j:Int):=Oo;have i4:((j:Int)-1).toNat=j-1:=Oo;clear c2 fin nxt h5;go_wp2;go_ret;exact⟨qK (by rw[M.o]),rfl⟩
  have M:=nxt h5;have d1:decide (x<0)=false:=Sy;have d2:decide (6<=x)=false:=Sy;have d3:decide (x<=y)=false:=Sy;have c3:=c2 U;have i3:(0:Int)<(j:Int):=Oo;have i4:((j:Int)-1).toNat=j-1:=Oo;clear c2 fin nxt h5;go_wp2;go_round;exact⟨j+1,Oo,Gg,M⟩;exact Im
 obtain rfl:j=n:=Oo;have M:Hh (res=true):=HR.o.trans (js (λi hi=>O.o i (by rw[HN.o];exact hi)));have i1:¬((j:Int)<(j:Int)):=Oo;clear O;go_wp2;go_ret;exact⟨qK (by rw[M.o]),rfl⟩
theorem Ug(w:World)(v:Value)(l:LI)(h:IS w v l)(hl:l.length<=1099511627776):
 Cl 84 #[v,ai 6] w λe w'=>e=.returned (.bool (qV l))/\w'=w:=by
 obtain⟨a,cap,rfl,hc⟩:=h;obtain⟨n,hn⟩:=Ex l.length;obtain⟨res,K⟩:=Ex (qV l);rw[<-K];have HR:=ay K;rw[<-hn]at hc hl ⊢;have HC:=ay hc;have HN:=ay hn;clear hc hn K;go_enter Tryz.func84,Tryz.ntmps84;go_wp2;go_loop [9] (λt=>∃j:Nat,j<=n/\t=ai j/\Hh (∀i,i<j->xD l i=true)) (λt=>n-(intOf t).toNat);exact⟨0,nZ _,rfl,ay (λi hi=>Oo)⟩;obtain⟨j,hj,rfl,O⟩:=hrel;by_cases a3:j<n
 ·have i1:(j:Int)<(n:Int):=Oo;rcases HC.o with h0|⟨b,o,rfl,I⟩;omega;have c1:w.cell? (az b (o+j))=some (ai (l.getD j 0)):=I j a3;have a4:=YV l j;have fin:xD l j=false->Hh (res=false):=λe=>HR.o.trans (YU (by rw[<-HN.o];exact a3) e);have nxt:xD l j=true->Hh (∀i,i<j+1->xD l i=true):=λe i hi=>by
   by_cases e2:i=j;rw[e2];exact e;exact O.o i Oo
  have c2:0<j->w.cell? (az b (o+(j-1)))=some (ai (l.getD (j-1) 0)):=λe=>I (j-1) Oo;clear I O;generalize l.getD j 0=x at *;generalize l.getD (j-1) 0=y at *;rcases a4 with ⟨h1,V⟩|⟨h1,V,U⟩|⟨h1,V,U,h4⟩|⟨h1,V,U,h4,h5⟩|⟨h1,V,U,h4,h5⟩
  ·have M:=fin V;clear c2 fin nxt V;go_wp2_with (first|(go_at_call 87;refine(yg _ _ _ _ Oo).mono ?_;rintro e w' ⟨rfl,rfl⟩));go_ret;exact⟨qK (by rw[M.o]),rfl⟩
  ·have M:=fin U;have d1:decide (x<0)=false:=Sy;clear c2 fin nxt U;go_wp2_with (first|(go_at_call 87;refine(yh _ _ _ _ Oo Oo).mono ?_;rintro e w' ⟨rfl,rfl⟩));go_ret;exact⟨qK (by rw[M.o]),rfl⟩
  ·have M:=nxt h4;have d1:decide (x<0)=false:=Sy;have d2:decide (6<=x)=false:=Sy;subst U;have a5:w.cell? (az b o)=some (ai x):=by simpa using c1
   clear c2 fin nxt h4;go_wp2_with (first|(go_at_call 87;refine(zN _ _ _ _ Oo Oo).mono ?_;rintro e w' ⟨rfl,rfl⟩));go_round;exact⟨0+1,Oo,Gg,M⟩;exact Im
  ·have M:=fin h5;have d1:decide (x<0)=false:=Sy;have d2:decide (6<=x)=false:=Sy;have c3:=c2 U;have i3:(0:Int)<(j:Int):=Oo;have i4:((j:Int)-1).toNat=j-1:=Oo;clear c2 fin nxt h5;go_wp2_with (first|(go_at_call 87;refine(zN _ _ _ _ Oo Oo).mono ?_;rintro e w' ⟨rfl,rfl⟩));go_ret;exact⟨qK (by rw[M.o]),rfl⟩
  have M:=nxt h5;have d1:decide (x<0)=false:=Sy;have d2:decide (6<=x)=false:=Sy;have d3:decide (x<=y)=false:=Sy;have c3:=c2 U;have i3:(0:Int)<(j:Int):=Oo;have i4:((j:Int)-1).toNat=j-1:=Oo;clear c2 fin nxt h5;go_wp2_with (first|(go_at_call 87;refine(zN _ _ _ _ Oo Oo).mono ?_;rintro e w' ⟨rfl,rfl⟩));go_round;exact⟨j+1,Oo,Gg,M⟩;exact Im
 obtain rfl:j=n:=Oo;have M:Hh (res=true):=HR.o.trans (js (λi hi=>O.o i (by rw[HN.o];exact hi)));have i1:¬((j:Int)<(j:Int)):=Oo;clear O;go_wp2;go_ret;exact⟨qK (by rw[M.o]),rfl⟩
theorem xz(h:j<l.length):l.getD j 0∈l:=by
 rw[gD,gE h];exact gM h
theorem yV{x:Int}(h:x∈l):∃j,j<l.length/\l.getD j 0=x:=by
 obtain⟨j,I,e⟩:=gO h;exact⟨j,I,by rw[gD,gE I];exact e⟩
theorem zm(w:World)(v:Value)(l:LI)(x:Int)(h:IS w v l)(hl:l.length<=1099511627776):
 Cl 62 #[v,ai x] w λe w'=>e=.returned (.bool (decide (x∈l)))/\w'=w:=by
 obtain⟨a,cap,rfl,V⟩:=h;obtain⟨n,hn⟩:=Ex l.length;obtain⟨res,I⟩:=Ex (decide (x∈l));rw[<-I];have HR:=ay I;rw[<-hn]at V hl ⊢;have HC:=ay V;have HN:=ay hn;clear V hn I;go_enter Tryz.func62,Tryz.ntmps62;go_wp2;go_loop [9] (λt=>∃j:Nat,j<=n/\t=ai j/\Hh (∀i,i<j->l.getD i 0≠x)) (λt=>n-(intOf t).toNat);exact⟨0,nZ _,rfl,ay (λi hi=>Oo)⟩;obtain⟨j,hj,rfl,M⟩:=hrel;by_cases O:j<n
 ·have i1:(j:Int)<(n:Int):=Oo;rcases HC.o with h0|⟨b,o,rfl,K⟩;omega;have c1:w.cell? (az b (o+j))=some (ai (l.getD j 0)):=K j O;have fin:l.getD j 0=x->Hh (res=true):=λe=>HR.o.trans (decide_eq_true (e ▸ xz (by rw[<-HN.o];exact O)));have nxt:l.getD j 0≠x->Hh (∀i,i<j+1->l.getD i 0≠x):=λe i hi=>by
   by_cases e2:i=j;rw[e2];exact e;exact M.o i Oo
  clear K M;generalize l.getD j 0=y at *;by_cases hy:y=x
  ·have U:=fin hy;subst hy;clear fin nxt;go_wp2;go_ret;exact⟨qK (by rw[U.o]),rfl⟩
  have U:=nxt hy;have d1:decide (x=y)=false:=Sy;have d2:¬(x=y):=Oo;clear fin nxt;go_wp2;go_round;exact⟨j+1,Oo,Gg,U⟩;exact Im
 obtain rfl:j=n:=Oo;have U:Hh (res=false):=HR.o.trans (decide_eq_false (λhm=>by
  obtain⟨i,hi,e⟩:=yV hm;exact M.o i (by rw[HN.o];exact hi) e))
 have i1:¬((j:Int)<(j:Int)):=Oo;clear M;go_wp2;go_ret;exact⟨qK (by rw[U.o]),rfl⟩
theorem Ku(w:World)(v:Value)(l:LI)(x:Int)(h:IS w v l)(hl:l.length<=1099511627776):
 Cl 133 #[v,ai x] w λe w'=>(∃k:Int,e=.returned (ai k)/\decide (0<=k)=decide (x∈l))/\w'=w:=by
 obtain⟨a,cap,rfl,V⟩:=h;obtain⟨n,hn⟩:=Ex l.length;obtain⟨res,I⟩:=Ex (decide (x∈l));rw[<-I];have HR:=ay I;rw[<-hn]at V hl ⊢;have HC:=ay V;have HN:=ay hn;clear V hn I;go_enter Tryz.func133,Tryz.ntmps133;go_wp2;go_loop [8] (λt=>∃j:Nat,j<=n/\t=ai j/\Hh (∀i,i<j->l.getD i 0≠x)) (λt=>n-(intOf t).toNat);exact⟨0,nZ _,rfl,ay (λi hi=>Oo)⟩;obtain⟨j,hj,rfl,M⟩:=hrel;by_cases O:j<n
 ·have i1:(j:Int)<(n:Int):=Oo;rcases HC.o with h0|⟨b,o,rfl,K⟩;omega;have c1:w.cell? (az b (o+j))=some (ai (l.getD j 0)):=K j O;have fin:l.getD j 0=x->Hh (res=true):=λe=>HR.o.trans (decide_eq_true (e ▸ xz (by rw[<-HN.o];exact O)));have nxt:l.getD j 0≠x->Hh (∀i,i<j+1->l.getD i 0≠x):=λe i hi=>by
   by_cases e2:i=j;rw[e2];exact e;exact M.o i Oo
  clear K M;generalize l.getD j 0=y at *;by_cases hy:y=x
  ·have U:=fin hy;subst hy;clear fin nxt;go_wp2;go_ret;exact⟨⟨_,rfl,by rw[U.o];simp⟩,rfl⟩
  have U:=nxt hy;have d1:decide (x=y)=false:=Sy;have d2:¬(x=y):=Oo;clear fin nxt;go_wp2;go_round;exact⟨j+1,Oo,Gg,U⟩;exact Im
 obtain rfl:j=n:=Oo;have U:Hh (res=false):=HR.o.trans (decide_eq_false (λhm=>by
  obtain⟨i,hi,e⟩:=yV hm;exact M.o i (by rw[HN.o];exact hi) e))
 have i1:¬((j:Int)<(j:Int)):=Oo;clear M;go_wp2;go_ret;exact⟨⟨_,rfl,by rw[U.o];simp⟩,rfl⟩
theorem yI(w:World)(v:Value)(l:LI)(x:Int)(h:IS w v l)(hl:l.length<=1099511627776):
 Cl 112 #[v,ai x] w λe w'=>e=.returned (.bool (decide (x∈l)))/\w'=w:=by
 have I:=ay (Ku w v l x h hl);generalize decide (x∈l)=res at *;clear h;go_enter Tryz.func112,Tryz.ntmps112;go_wp2_with (first|(go_at_call 133;refine I.o.mono ?_;rintro e w' ⟨⟨k,rfl,K⟩,rfl⟩));go_ret;exact⟨rfl,rfl⟩
theorem Tryz.infoInt:(Tryz.prog.info? 3).map (λi=>(i.zero,i.size,i.bytes))=some (some (ai 0),1,8):=Kl
def plc(p:Nat->Bool)(k:Nat):LI:=((List.range k).filter p).map Int.ofNat
theorem kI(p:Nat->Bool)(k:Nat)(h:p k=true):plc p (k+1)=plc p k++[(k:Int)]:=by
 simp[plc,List.range_succ,List.filter_append,h]
theorem jQ(p:Nat->Bool)(k:Nat)(h:p k=false):plc p (k+1)=plc p k:=by
 simp[plc,List.range_succ,List.filter_append,h]
theorem xp(p:Nat->Bool)(k:Nat):(plc p k).length<=k:=by
 unfold plc;rw[lM];exact bM (List.length_filter_le _ _) Ss
theorem kq{B:Nat}{e:TypeId}{u:Value}{o:Obj}{xs:List Value}(hB:B<=wr.1.size)
 (K:wr.ownsRow B e 1 u n xs) (M:Below B w wr) (I:(wr.alloc o).grownBy w1 u.ownBlock):Below B w w1:=
 (M.alloc hB o).grown I Sy (λj O=>(K.lt j O).1)
theorem xI(w:World)(vb ve:Value)(bag I:LI)(h:IS w vb bag)(he:IS w ve I)(hl:bag.length<=1099511627776)(a6:I.length<=1099511627776):
 Cl 75 #[vb,ve] w λe w'=>∃v,e=.returned v/\
  w'.ownsRow w.1.size 3 1 v (plc (λi=>decide (bag.getD i 0∈I)) bag.length).length ((plc (λi=>decide (bag.getD i 0∈I)) bag.length).map ai)/\Bl w w':=by
 obtain⟨i0,hi,a7,a8,a9⟩:=info_parts Tryz.infoInt;obtain⟨p,hp⟩:=Ex (λi=>decide (bag.getD i 0∈I):Nat->Bool);rw[<-hp];obtain⟨a,cap,rfl,hc⟩:=h;obtain⟨n,hn⟩:=Ex bag.length;rw[<-hn]at hc hl ⊢;have HP:=ay hp;have HC:=ay hc;have HN:=ay hn;have HE:=ay he;clear hp hc hn he;go_enter Tryz.func75,Tryz.ntmps75;go_wp2;go_loopw [5,10] (λv t wr=>∃k:Nat,k<=n/\t=ai k/\wr.ownsRow w.1.size 3 1 v (plc p k).length ((plc p k).map ai)/\Bl w wr) (λ_ t _=>n-(intOf t).toNat);exact⟨0,nZ _,rfl,oN _ _ _ _,bJ _ _⟩;obtain⟨k,hk,rfl,K,M⟩:=hrel;have b8:=xp p k;have b0:=M.size;by_cases b1:k<n
 ·have i1:(k:Int)<(n:Int):=Oo;rcases HC.o with h0|⟨b,o,rfl,O⟩;omega;have c0:=O k b1;have c1:wr.cell? (az b (o+k))=some (ai (bag.getD k 0)):=(M.cell (p:=(az b (o+k))) (bL w _ c0)).trans c0;have HK:=ay (yI wr ve I (bag.getD k 0) (HE.o.below M) a6);have a4:p k=decide (bag.getD k 0∈I):=by rw[HP.o]
  rw[<-a4]at HK;clear O c0 a4;generalize bag.getD k 0=y at *;by_cases hy:p k=true
  ·have e1:=ay (kI p k hy);rw[hy]at HK;go_wp2_with (first
    |(go_at_call 112;refine HK.o.mono ?_;rintro e w' ⟨rfl,b7⟩;subst w')
    |(at_builtin;refine wpList_append_own _ rfl _ _ 24 rfl w.1.size 3 i0 (ai 0) 1 8 Tryz.underlying24 hi a7 a8 a9 rfl Dd _ _ _ rfl (K.alloc _) (az wr.1.size 0) 1 1 [ai k] rfl rfl ?c1 ?c2 ?c3 ?c4 ?c5 ?_))
   case c1=>
    intro j u hj;match j,hj with
    |0,hj=>simp at hj;subst hj;simp[Addr.add]
   case c2=>intro u hu;simp at hu;subst hu;rfl
   case c3=>unfold maxLen;omega
   case c4=>omega
   case c5=>simp;omega
   intro v' w1 U V _;have hb:=kq b0 K M V;have a3:w1.ownsRow w.1.size 3 1 v' (plc p (k+1)).length ((plc p (k+1)).map ai):=by
    rw[e1.o];simpa using U
   clear U V K;go_wp2;go_roundw;exact⟨k+1,Oo,Gg,a3,hb⟩;exact Im
  have a5:p k=false:=by simpa using hy
  have e1:=ay (jQ p k a5);rw[a5]at HK;go_wp2_with (first
   |(go_at_call 112;refine HK.o.mono ?_;rintro e w' ⟨rfl,b7⟩;subst w'))
  go_roundw;exact⟨k+1,Oo,Gg,by rw[e1.o];exact K,M⟩;exact Im
 obtain rfl:k=n:=Oo;have i1:¬((k:Int)<(k:Int)):=Oo;go_wp2;go_ret;exact⟨_,rfl,K,M⟩
def ISS(w:World)(v:Value)(ls:LL):Prop:=∃a cap,v=.slice a ls.length cap/\(ls.length=0∨∃b o,a=some (az b o)/\∀j,j<ls.length->∃u,w.cell? (az b (o+j))=some u/\IS w u (ls.getD j []))
theorem ISS.below(h:ISS w v ls)(hb:Bl w w'):ISS w' v ls:=by
 obtain⟨a,cap,rfl,h⟩:=h;refine⟨a,cap,rfl,?_⟩;rcases h with h|⟨b,o,rfl,h⟩;exact Or.inl h;refine Or.inr ⟨b,o,rfl,λj K=>?_⟩;obtain⟨u,I,M⟩:=h j K;exact⟨u,(hb.cell (p:=(az b (o+j))) (bL w _ I)).trans I,M.below hb⟩
def qT(ls:LL):Prop:=ls.length<=1099511627776/\∀j,(ls.getD j []).length<=1099511627776
theorem yG(w:World)(ve:Value)(x:Int)(es:LL)(h:ISS w ve es)(hl:qT es):
 Cl 96 #[ai x,ve] w λe w'=>∃v,e=.returned v/\
  w'.ownsRow w.1.size 3 1 v (plc (λi=>decide (x∈es.getD i [])) es.length).length ((plc (λi=>decide (x∈es.getD i [])) es.length).map ai)/\Bl w w':=by
 obtain⟨i0,hi,a6,a7,a8⟩:=info_parts Tryz.infoInt;obtain⟨p,hp⟩:=Ex (λi=>decide (x∈es.getD i []):Nat->Bool);rw[<-hp];obtain⟨a,cap,rfl,hc⟩:=h;obtain⟨a9,a3⟩:=hl;obtain⟨n,hn⟩:=Ex es.length;rw[<-hn]at hc a9 ⊢;have HP:=ay hp;have HC:=ay hc;have HN:=ay hn;have HL:=ay a3;clear hp hc hn a3;go_enter Tryz.func96,Tryz.ntmps96;go_wp2;go_loopw [5,10] (λv t wr=>∃k:Nat,k<=n/\t=ai k/\wr.ownsRow w.1.size 3 1 v (plc p k).length ((plc p k).map ai)/\Bl w wr) (λ_ t _=>n-(intOf t).toNat);exact⟨0,nZ _,rfl,oN _ _ _ _,bJ _ _⟩;obtain⟨k,hk,rfl,I,K⟩:=hrel;have b8:=xp p k;have b0:=K.size;by_cases b1:k<n
 ·have i1:(k:Int)<(n:Int):=Oo;rcases HC.o with h0|⟨b,o,rfl,M⟩;omega;obtain⟨u,c0,hu⟩:=M k b1;have c1:wr.cell? (az b (o+k))=some u:=(K.cell (p:=(az b (o+k))) (bL w _ c0)).trans c0;have HK:=ay (yI wr u (es.getD k []) x (hu.below K) (HL.o k));have a4:p k=decide (x∈es.getD k []):=by rw[HP.o]
  rw[<-a4]at HK;obtain⟨a1,b9,rfl,-⟩:=hu;clear M c0 a4;generalize (es.getD k []).length=m at *;by_cases hy:p k=true
  ·have e1:=ay (kI p k hy);rw[hy]at HK;go_wp2_with (first
    |(go_at_call 112;refine HK.o.mono ?_;rintro e w' ⟨rfl,b7⟩;subst w')
    |(at_builtin;refine wpList_append_own _ rfl _ _ 24 rfl w.1.size 3 i0 (ai 0) 1 8 Tryz.underlying24 hi a6 a7 a8 rfl Dd _ _ _ rfl (I.alloc _) (az wr.1.size 0) 1 1 [ai k] rfl rfl ?c1 ?c2 ?c3 ?c4 ?c5 ?_))
   case c1=>
    intro j u hj;match j,hj with
    |0,hj=>simp at hj;subst hj;simp[Addr.add]
   case c2=>intro u hu;simp at hu;subst hu;rfl
   case c3=>unfold maxLen;omega
   case c4=>omega
   case c5=>simp;omega
   intro v' w1 O U _;have hb:=kq b0 I K U;have V:w1.ownsRow w.1.size 3 1 v' (plc p (k+1)).length ((plc p (k+1)).map ai):=by
    rw[e1.o];simpa using O
   clear O U I;go_wp2;go_roundw;exact⟨k+1,Oo,Gg,V,hb⟩;exact Im
  have a5:p k=false:=by simpa using hy
  have e1:=ay (jQ p k a5);rw[a5]at HK;go_wp2_with (first
   |(go_at_call 112;refine HK.o.mono ?_;rintro e w' ⟨rfl,b7⟩;subst w'))
  go_roundw;exact⟨k+1,Oo,Gg,by rw[e1.o];exact I,K⟩;exact Im
 obtain rfl:k=n:=Oo;have i1:¬((k:Int)<(k:Int)):=Oo;go_wp2;go_ret;exact⟨_,rfl,I,K⟩
def tot(ls:LL)(k:Nat):Nat:=ls.length+((ls.take k).map List.length).sum
theorem XB(ls:LL):tot ls 0=ls.length:=by simp[tot]
theorem ke(ls:LL)(k:Nat)(h:k<ls.length):tot ls (k+1)=tot ls k+(ls.getD k []).length:=by
 unfold tot;rw[tA,gE h,gD,gE h];simp only[Option.toList_some,List.map_append,List.map_cons,List.map_nil,List.sum_append,List.sum_cons,List.sum_nil,Option.getD_some];omega
theorem JM(ls:LL):∀(d k:Nat),k+d=ls.length->tot ls k<=tot ls ls.length:=by
 intro d;induction d with
 |zero=>intro k h;rw[show k=ls.length by omega];exact nR _
 |succ d ih=>
  intro k h;have I:=ih (k+1) Oo;have K:=ke ls k Oo;omega
def Fits(ls:LL):Prop:=ls.length<=9223372036854775807/\∀j,(ls.getD j []).length<=9223372036854775807
theorem Zv(ls:LL)(j:Nat):(ls.getD j []).length<=tot ls ls.length:=by
 by_cases h:j<ls.length;have I:=ke ls j h;have K:=JM ls (ls.length-(j+1)) (j+1) Oo;omega;rw[gD,gN Oo];simp
theorem JO(h:tot ls ls.length<=1048576):qT ls:=by
 have I:=JM ls ls.length 0 Oo;rw[XB]at I;exact⟨Oo,λj=>by have:=Zv ls j;omega⟩
def JP(ls:LL)(left:Int):Int:=if left<tot ls ls.length then -1 else left-tot ls ls.length
theorem QL(w:World)(ve:Value)(ls:LL)(left:Int)(h:ISS w ve ls)(hl:Fits ls)(h1:0<=left)(h2:left<=1048576):
 Cl 16 #[ve,ai left] w λe w'=>e=.returned (ai (JP ls left))/\w'=w:=by
 obtain⟨a,cap,rfl,hc⟩:=h;obtain⟨a5,U⟩:=hl;obtain⟨n,hn⟩:=Ex ls.length;obtain⟨res,I⟩:=Ex (JP ls left);rw[<-I];unfold JP at I;rw[<-hn]at hc a5 I ⊢;have HR:=ay I;have HC:=ay hc;have HN:=ay hn;have HL:=ay U;have HT:Hh (∀k,k<=n->tot ls k<=tot ls n):=λk hk=>by
  have:=JM ls (ls.length-k) k (by rw[<-HN.o];omega);rw[<-HN.o]at this;exact this
 have HS:Hh (∀k,k<n->tot ls (k+1)=tot ls k+(ls.getD k []).length):=λk hk=>ke ls k (by rw[<-HN.o];exact hk);have H0:Hh (tot ls 0=n):=(XB ls).trans HN.o.symm;clear hc hn U I;by_cases O:left<n
 ·have a6:left-(n:Int)<0:=Oo;have a7:Hh (res=-1):=by
   have t0:=HT.o 0 Oo;rw[H0.o]at t0;exact HR.o.trans (if_pos Oo)
  go_enter Tryz.func16,Tryz.ntmps16;go_wp2;go_ret;exact⟨qR a7.o.symm,rfl⟩
 have a6:¬(left-(n:Int)<0):=Oo;go_enter Tryz.func16,Tryz.ntmps16;go_wp2;go_loop [1,5] (λu t=>∃j:Nat,j<=n/\t=ai j/\∃c:Int,u=ai c/\0<=c/\c<=left/\Hh (c=left-tot ls j)) (λ_ t=>n-(intOf t).toNat);exact⟨0,nZ _,rfl,_,rfl,Oo,Oo,ay (by rw[H0.o])⟩;obtain⟨j,hj,rfl,c,rfl,a8,b0,M⟩:=hrel;by_cases V:j<n
 ·have i1:(j:Int)<(n:Int):=Oo;rcases HC.o with h0|⟨b,o,rfl,K⟩;omega;obtain⟨u,c1,hu⟩:=K j V;have hs:=HS.o j V;have hm:=HL.o j;obtain⟨a1,a3,rfl,-⟩:=hu;have ht:=HT.o (j+1) Oo;have ho:=M.o;have hr:=HR.o;clear K M;generalize (ls.getD j []).length=m at *;have HK:=ay (yN w a1 m a3 c a8 Oo Oo);by_cases a4:c<m
  ·have O:Hh (res=-1):=ay (hr.trans (if_pos Oo));rw[if_pos a4]at HK;clear hs ht ho hr;go_wp2_with (first|(go_at_call 17;refine HK.o.mono ?_;rintro e w' ⟨rfl,a9⟩;subst w'));go_ret;exact⟨qR O.o.symm,rfl⟩
  have O:Hh (c-m=left-tot ls (j+1)):=ay Oo;have b1:¬(c-(m:Int)<0):=Oo;rw[if_neg a4]at HK;clear hs ht ho hr;go_wp2_with (first|(go_at_call 17;refine HK.o.mono ?_;rintro e w' ⟨rfl,a9⟩;subst w'));go_round;exact⟨j+1,Oo,Gg,_,rfl,Oo,Oo,O⟩;exact Im
 obtain rfl:j=n:=Oo;have ho:=M.o;have O:Hh (res=c):=HR.o.trans (by rw[if_neg Oo];omega);have i1:¬((j:Int)<(j:Int)):=Oo;clear M ho;go_wp2;go_ret;exact⟨qR O.o.symm,rfl⟩
structure Half(w:World)(G n j:Nat)(ls:LL)(f:Nat->Nat):Prop where
 cell:∀i,i<n->w.cell? (az G i)=some (if i<j then .slice (some (az (f i) 0)) (ls.getD i []).length (ls.getD i []).length else sn)
 free:∀i,i<n->w.frozen? (az G i)=false
 own:∀i,i<j->OwnI w (f i) (ls.getD i [])
 gt:∀i,i<j->G<f i
 up:∀i k,i<k->k<j->f i<f k
theorem Half.step{G:Nat}{f:Nat->Nat}(h:Half w G n j ls f)(hj:j<n)(M:G<w.1.size)
 (ho:OwnI w1 w.1.size (ls.getD j [])) (hb:Bl w w1):
 Half (w1.setCell (az G j) (.slice (some (az w.1.size 0)) (ls.getD j []).length (ls.getD j []).length)) G n (j+1) ls (λi=>if i=j then w.1.size else f i):=by
 have U:∀i,i<n->w1.cell? (az G i)=some (if i<j then .slice (some (az (f i) 0)) (ls.getD i []).length (ls.getD i []).length else sn):=
  λi hi=>(hb.cell (p:=(az G i)) M).trans (h.cell i hi)
 have I:∀(a:Addr) (v:Value),(w1.setCell a v).1.size=w1.1.size:=λa v=>by simp[World.setCell]
 refine⟨λi hi=>?_,λi hi=>?_,λi hi=>?_,λi hi=>?_,λi k O hk=>?_⟩
 ·by_cases e:i=j;subst e;rw[if_pos Oo,if_pos rfl];exact bG _ _ _ (U i hi);rw[bC _ _ _ _ (by intro K;simp only[Addr.mk.injEq]at K;omega),U i hi,if_neg e];by_cases K:i<j;rw[if_pos K,if_pos Oo];rw[if_neg K,if_neg Oo]
 rw[fS];exact(World.frozen?_of_block (w:=w) (a:=(az G i)) (hb.block G M)).trans (h.free i hi)
 ·by_cases e:i=j;subst e;rw[if_pos rfl];exact ho.move (bD _ _ _ _ (by show w.1.size≠G;omega)) (by rw[I];exact nR _);rw[if_neg e];have V:=h.gt i Oo;exact((h.own i Oo).below hb).move (bD _ _ _ _ (by show f i≠G;omega)) (by rw[I];exact nR _)
 ·show G<(if i=j then w.1.size else f i);by_cases e:i=j;rw[if_pos e];exact M;rw[if_neg e];exact h.gt i Oo
 show(if i=j then w.1.size else f i)<(if k=j then w.1.size else f k);rw[if_neg Oo];by_cases e:k=j;rw[if_pos e];exact(h.own i Oo).lt;rw[if_neg e];exact h.up i k O Oo
theorem QM(w:World)(v:Value)(ls:LL)(h:ISS w v ls)(hl:qT ls):
 Cl 25 #[v] w λe w'=>e=.returned (.slice (some (az w.1.size 0)) ls.length ls.length)/\(∃f,Half w' w.1.size ls.length ls.length ls f)/\w.1.size<w'.1.size/\Bl w w':=by
 obtain⟨a,cap,rfl,hc⟩:=h;obtain⟨a4,U⟩:=hl;obtain⟨n,hn⟩:=Ex ls.length;rw[<-hn]at hc a4 ⊢;have a8:=run_make_row' (P:=Tryz.prog) 23 24 sn 24 Tryz.underlying23 Kl rfl .i64 .i64 n Oo Oo;have O:=heap_alloc_new w (.cells (madeCells #[sn] n) 24);have V:∀j,j<n->(w.alloc (.cells (madeCells #[sn] n) 24)).cell? (az w.1.size j)=some sn:=λj hj=>by rw[cell_of_row _ _ _ _ _ _ O];exact JL _ _ _ hj
 have a3:∀j,(w.alloc (.cells (madeCells #[sn] n) 24)).frozen? (az w.1.size j)=false:=λj=>by unfold World.frozen?;rw[O];simp
 have a5:=ay V;have a6:=ay a3;clear V a3 O;have HC:=ay hc;have HN:=ay hn;have HL:=ay U;clear hc hn U;go_enter Tryz.func25,Tryz.ntmps25;go_wp2;go_loopw [4] (λt wr=>∃j:Nat,j<=n/\t=ai j/\Bl w wr/\w.1.size<wr.1.size/\Hh (∃f,Half wr w.1.size n j ls f)) (λt _=>n-(intOf t).toNat);exact⟨0,nZ _,rfl,aK,Ss,ay ⟨λ_=>0,λi hi=>by rw[if_neg Oo];exact a5.o i hi,λi _=>a6.o i,λi hi=>Oo,λi hi=>Oo,λi k _ hk=>Oo⟩⟩;obtain⟨j,hj,rfl,hB,K,hH⟩:=hrel;by_cases M:j<n
 ·have i1:(j:Int)<(n:Int):=Oo;rcases HC.o with h0|⟨b,o,rfl,I⟩;omega;obtain⟨u,c0,hu⟩:=I j M;have c1:wr.cell? (az b (o+j))=some u:=(hB.cell (p:=(az b (o+j))) (bL w _ c0)).trans c0;have HK:=ay (yM wr u (ls.getD j []) (hu.below hB) (HL.o j));obtain⟨a1,a7,rfl,-⟩:=hu;have c2:wr.cell? (az w.1.size j)=some sn:=by
   obtain⟨f,hf⟩:=hH.o;exact(hf.cell j M).trans (by rw[if_neg Oo])
  have c3:wr.frozen? (az w.1.size j)=false:=by
   obtain⟨f,hf⟩:=hH.o;exact hf.free j M
  have HS:Hh (∀w1,OwnI w1 wr.1.size (ls.getD j [])->Bl wr w1->∃f,Half (w1.setCell (az w.1.size j) (.slice (some (az wr.1.size 0)) (ls.getD j []).length (ls.getD j []).length)) w.1.size n (j+1) ls f):=λw1 ho hb=>by
   obtain⟨f,hf⟩:=hH.o;exact⟨_,hf.step M K ho hb⟩
  clear I c0 hH;go_wp2_with (first|(go_at_call 26;refine HK.o.mono ?_;rintro e w1 ⟨rfl,ho,hb⟩;have c4:w1.cell? (az w.1.size j)=some sn:=(hb.cell (p:=(az w.1.size j)) K).trans c2;have c5:w1.frozen? (az w.1.size j)=false:=(World.frozen?_of_block (w:=wr) (a:=(az w.1.size j)) (hb.block w.1.size K)).trans c3;have HO:=ay ho;have HB:=ay hb;clear ho hb));go_roundw;exact⟨j+1,Oo,Gg,(bt hB HB.o).setCell (nR _) _,by have:=HB.o.size;simp[World.setCell];omega,ay (HS.o _ HO.o HB.o)⟩;exact Im
 obtain rfl:j=n:=Oo;have i1:¬((j:Int)<(j:Int)):=Oo;go_wp2;go_ret;exact⟨rfl,hH.o,K,hB⟩
theorem zY(k:Nat)(h:∃m,wr=w.drewN m):∃m,wr.drewN k=w.drewN m:=by
 obtain⟨m,rfl⟩:=h;exact⟨m+k,World.drewN_drewN _ _ _⟩
theorem jN(w:World)(v v':Value)(l:LI)(h:IS w v l)(h':IS w v' l)(hl:l.length<=1099511627776):
 Cl 35 #[v,v'] w λe w'=>e=.returned (.bool true)/\∃m,w'=w.drewN m:=by
 obtain⟨a,cap,rfl,U⟩:=h;obtain⟨a',a3,rfl,M⟩:=h';obtain⟨n,hn⟩:=Ex l.length;rw[<-hn]at U M hl ⊢;have HC:=ay U;have V:=ay M;clear U M hn;have a4:((n:Int) != (n:Int))=false:=Ss;go_enter Tryz.func35,Tryz.ntmps35;go_wp2;go_loopw [5] (λt wr=>∃j:Nat,j<=n/\t=ai j/\Hh (∃m,wr=w.drewN m)) (λt _=>n-(intOf t).toNat);exact⟨0,nZ _,rfl,ay ⟨0,rfl⟩⟩;obtain⟨j,hj,rfl,hB⟩:=hrel;by_cases O:j<n
 ·have i1:(j:Int)<(n:Int):=Oo;rcases HC.o with h0|⟨b,o,rfl,K⟩;omega;rcases V.o with h0|⟨b',o',rfl,I⟩;omega;have c1:wr.cell? (az b (o+j))=some (ai (l.getD j 0)):=by obtain⟨m,rfl⟩:=hB.o;exact K j O
  have c2:wr.cell? (az b' (o'+j))=some (ai (l.getD j 0)):=by obtain⟨m,rfl⟩:=hB.o;exact I j O
  obtain⟨x,hx⟩:=Ex (l.getD j 0);rw[<-hx]at c1 c2;have a5:(x != x)=false:=Ss;clear K I hx;go_wp2_with fail;go_quiet (fail)
  go_wp2;go_roundw;exact⟨j+1,Oo,Gg,ay (zY _ hB.o)⟩;exact Im
 obtain rfl:j=n:=Oo;have i1:¬((j:Int)<(j:Int)):=Oo;go_wp2;go_ret;exact⟨rfl,hB.o⟩
theorem QN(w:World)(v v':Value)(ls:LL)(h:ISS w v ls)(h':ISS w v' ls)(hl:qT ls):
 Cl 34 #[v,v'] w λe w'=>e=.returned (.bool true)/\∃m,w'=w.drewN m:=by
 obtain⟨a,cap,rfl,hc⟩:=h;obtain⟨a',a5,rfl,M⟩:=h';obtain⟨a3,O⟩:=hl;obtain⟨n,hn⟩:=Ex ls.length;rw[<-hn]at hc M a3 ⊢;have HC:=ay hc;have a4:=ay M;have HL:=ay O;clear hc M hn O;have a8:((n:Int) != (n:Int))=false:=Ss;go_enter Tryz.func34,Tryz.ntmps34;go_wp2;go_loopw [5] (λt wr=>∃j:Nat,j<=n/\t=ai j/\Hh (∃m,wr=w.drewN m)) (λt _=>n-(intOf t).toNat);exact⟨0,nZ _,rfl,ay ⟨0,rfl⟩⟩;obtain⟨j,hj,rfl,hB⟩:=hrel;by_cases U:j<n
 ·have i1:(j:Int)<(n:Int):=Oo;rcases HC.o with h0|⟨b,o,rfl,K⟩;omega;rcases a4.o with h0|⟨b',o',rfl,I⟩;omega;obtain⟨u,d1,hu⟩:=K j U;obtain⟨u',d2,V⟩:=I j U;have c1:wr.cell? (az b (o+j))=some u:=by obtain⟨m,rfl⟩:=hB.o;exact d1
  have c2:wr.cell? (az b' (o'+j))=some u':=by obtain⟨m,rfl⟩:=hB.o;exact d2
  have HK:Hh (∀q,Cl 35 #[u,u'] (wr.drewN q) λe w'=>e=.returned (.bool true)/\∃m,w'=(wr.drewN q).drewN m):=λq=>by
   obtain⟨m,rfl⟩:=hB.o;exact jN _ u u' (ls.getD j []) hu V (HL.o j)
  obtain⟨a1,a6,rfl,-⟩:=hu;obtain⟨a2,a7,rfl,-⟩:=V;clear K I d1 d2;go_wp2_with fail;go_quiet ((go_at_call 35;exact Calls.quiet_of (HK.o _)))
  go_wp2;go_roundw;exact⟨j+1,Oo,Gg,ay (zY _ hB.o)⟩;exact Im
 obtain rfl:j=n:=Oo;have i1:¬((j:Int)<(j:Int)):=Oo;go_wp2;go_ret;exact⟨rfl,hB.o⟩
end Go.Proofs.YtcnfapnfmnolbaaGreat
