import Derived.Deep.AppendLies
import Derived.Deep.OwnRows
import Derived.Test.YtfpjpngjikdaoaaGreatAg00
import Derived.Deep.RegionHeld3
set_option maxHeartbeats 40000000
set_option maxRecDepth 1000000
set_option linter.defProp false
open List Go.World
open List renaming length->E,getD->U
open Array renaming size->J
open Go.World renaming alloc->S,setCell->sW,cell?->eQ,ownsRow->oW
open Go.Value renaming slice->Z,bool->oB,agg->aQ
open Go.Obj renaming cells->eZ
open Go.Ending renaming returned->rE
open Option renaming some->Q
open Bool renaming false->nF
open Decidable renaming decide->oD
open Go renaming World->oX,Value->oV
namespace Go.Proofs.YtfpjpngjikdaoaaGreat
open Go.Proofs.Tryz Go.RowKit
def apL{ops:Array Oper}{rest:List Oper}{o:Oper}{a:Act}{iQ:Exit->Act->oX->Prop}{s x:Operand}{t e:TypeId}{base size bytes n c b:Nat}{z v:oV}{xs news:List oV}{w:oX}(g:o.guard=none)(ho:o.op=.call {callee:=.builtin .append,args:=#[s,x],argTypes:=#[t,t]})(u:Tryz.prog.underlying t=Q (.slice e))(f:(Tryz.prog.info? e).map (λi=>(i.zero,i.size,i.bytes))=Q (Q z,size,bytes))(O:oW w base e size v n xs)(hs:a.eval s=v)(hx:a.eval x=Z (Q (az b 0)) 1 c)(N:∀j u,news[j]?=Q u->w.cell? ((az b 0).add j)=Q u)(B:base<=w.heap.size)(h:∀g cap w',oW w' base e size (Z (Q ⟨g,0,none⟩) (n+1) cap) (n+1) (xs++news)->w.grownBy w' v.ownBlock->(v.ownBlock=Q g∨g=w.heap.size)->g<w'.heap.size->wpList Tryz.prog ops iQ rest (a.put o.dst (Z (Q ⟨g,0,none⟩) (n+1) cap)) w')(hz:z.cells.size=size:=by rfl)(hl:E news=1*size:=by rfl)(h0:0<size:=by decide)(h1:∀u∈news,u.oneCell':=by intro u hu;simp at hu;subst hu;rfl)(h6:n+1<=maxLen:=by unfold maxLen;omega)(hb:(n+1)*bytes<=140737488355328:=by omega):wpList Tryz.prog ops iQ (o::rest) a w:=by
 have⟨i,hi,e1,e2,e3⟩:=aX f;exact wpList_append_lies w g s x t ho base e i z size bytes u hi e1 e2 e3 hz h0 v n xs hs O (az b 0) 1 c news hx hl N h1 Dd h6 hb B _ rfl h
variable {l:LI}{ls:LL}{g j n N B G k:Nat}{v z v' u ve:oV}{w w' w1 wr:oX}
def IS(w:oX)(v:oV)(l:LI):Prop:=∃a cap,v=Z a (E l) cap/\(E l=0\/∃b o,a=Q (az b o)/\∀j,j<E l->eQ w (az b (o+j))=Q (ai (U l j 0)))
def IS.zz(h:IS w v l)(hb:Bl w w'):IS w' v l:=by
 obtain⟨a,cap,rfl,h⟩:=h;refine⟨a,cap,rfl,?_⟩;rcases h with h|⟨b,o,rfl,h⟩;exact .inl h;exact .inr ⟨b,o,rfl,λj I=>(hb.cell (bL w _ (h j I))).trans (h j I)⟩
structure OwnI(w:oX)(g:Nat)(l:LI):Prop where
 cell:∀j,j<E l->eQ w (az g j)=Q (ai (U l j 0))
 L:∀j,j<E l->w.frozen? (az g j)=nF
 lt:g<J w.1
def OwnI.is(h:OwnI w g l):IS w (sZ g 0 (E l) (E l)) l:=
 ⟨_,_,rfl,.inr ⟨g,0,rfl,λj I=>by rw[cU];exact h.cell j I⟩⟩
def OwnI.A(h:OwnI w g l)(hb:w'.1[g]?=w.1[g]?)(hs:J w.1<=J w'.1):OwnI w' g l:=
 ⟨λj I=>(bF hb).trans (h.cell j I),λj I=>(dA hb).trans (h.L j I),bN h.lt hs⟩
def OwnI.zz(h:OwnI w g l)(hb:Bl w w'):OwnI w' g l:=h.A (hb.block g h.lt) hb.size
def Qu(h:j<n):(madeCells #[z] n)[j]?=Q z:=by
 simp[madeCells,h,Nat.mod_one]
def yH w v(h:IS w v l)(hl:E l<=1099511627776):
 aF 9 #[v] w (sZ (J w.1) 0 (E l) (E l)) λw'=>OwnI w' (J w.1) l/\Bl w w':=by
 obtain⟨a,cap,rfl,hc⟩:=h;have⟨n,hn⟩:=Ex (E l);rw[<-hn]at hc hl |-;have a7:=run_make_row' 24 3 (ai 0) 8 underlying24 Kl rfl .i64 .i64 n Oo Oo;have M:=dZ w (eZ (madeCells #[ai 0] n) 3);have V:∀j,j<n->eQ (S w (eZ (madeCells #[ai 0] n) 3)) (az (J w.1) j)=Q (ai 0):=λj hj=>by rw[eI M];exact Qu hj
 have a3:∀j,(S w (eZ (madeCells #[ai 0] n) 3)).frozen? (az (J w.1) j)=false:=λj=>by unfold World.frozen?;rw[M];simp
 have a5:=ay V;have a6:=ay a3;clear V a3 M;change Hh _ at hc hn;go_enter func9,ntmps9;go_wp2;go_loopw [4] (λt wr=>∃j:Nat,j<=n/\t=ai j/\Bl w wr/\J w.1<J wr.1/\Hh ((∀i,i<n->eQ wr (az (J w.1) i)=Q (ai (if i<j then U l i 0 else 0)))/\∀i,i<n->wr.frozen? (az (J w.1) i)=nF)) (mZ n);exact⟨0,eC,rfl,aK,Ss,ay ⟨λi hi=>by rw[fF Oo];exact a5 i hi,λi _=>a6 i⟩⟩;obtain⟨j,hj,rfl,hB,a4,O⟩:=hrel;by_cases K:j<n
 .have i1:=aV K;rcases hc.o with h0|⟨b,o,rfl,I⟩;omega;have c1:=(hB.cell (bL w _ (I j K))).trans (I j K);have c2:=O.1 j K;have c3:=O.2 j K;clear I;go_wp2;go_roundw
  case rel=>
   refine⟨j+1,Oo,Gg,hB.setCell eA _,by simpa using a4,ay ⟨λi hi=>?_,λi hi=>by rw[fS];exact O.2 i hi⟩⟩;by_cases e:i=j;subst e;rw[fE Oo];exact eJ c2;rw[eE (by intro e2;simp only[aI]at e2;omega),O.o.1 i hi];by_cases e2:i<j;rw[fE e2,fE Oo];rw[fF e2,fF Oo]
  case measure=>exact Im
 obtain rfl:j=n:=Oo;have i1:=aY j;go_wp2;go_ret;refine⟨rfl,⟨λi hi=>?_,λi hi=>O.o.2 i (by rw[hn.o];exact hi),a4⟩,hB⟩;rw[O.o.1 i (by rw[hn.o];exact hi),fE (by rw[hn.o];exact hi)]
def ym w(a:OA)n cap left(K:0<=left)(M:left<=1048576)(O:n<=9223372036854775807):
 aF 23 #[Z a n cap,ai left] w (ai (if left<n then -1 else left-n)) λw'=>w'=w:=by
 by_cases h:left<n
 .rw[fE h];have I:left-(n:Int)<0:=Oo;go_enter func23,ntmps23;go_wp2;go_ret;exact⟨rfl,rfl⟩
 rw[fF h];have I:¬(left-(n:Int)<0):=Oo;go_enter func23,ntmps23;go_wp2;go_ret;exact⟨rfl,rfl⟩
def QN w(h:IS w v l)(h':IS w v' l)(hl:E l<=1099511627776):
 aG 12 #[v,v'] w (oB true):=by
 obtain⟨a,cap,rfl,V⟩:=h;obtain⟨a',a4,rfl,O⟩:=h';have⟨n,hn⟩:=Ex (E l);rw[<-hn]at V O hl |-;change Hh _ at V O;clear hn;have a5:((n:Int) != (n:Int))=false:=Ss;go_enter func12,ntmps12;go_wp2;go_loopw [5] (λt wr=>∃j:Nat,j<=n/\t=ai j/\Bl w wr) (mZ n);exact⟨0,eC,rfl,eB⟩;obtain⟨j,hj,rfl,hB⟩:=hrel;by_cases M:j<n
 .have i1:=aV M;rcases V.o with h0|⟨b,o,rfl,K⟩;omega;rcases O.o with h0|⟨b',o',rfl,I⟩;omega;have c1:=(hB.cell (bL w _ (K j M))).trans (K j M);have c2:=(hB.cell (bL w _ (I j M))).trans (I j M);have⟨x,hx⟩:=Ex (U l j 0);rw[<-hx]at c1 c2;have a6:(x != x)=false:=Ss;clear K I hx;go_wp2_with fail;go_quiet (fail)
  go_wp2;go_roundw;exact⟨j+1,Oo,Gg,below_drewN hB _⟩;exact Im
 obtain rfl:j=n:=Oo;have i1:=aY j;go_wp2;go_ret;exact⟨rfl,hB⟩
def QZ(k:Int)(n:Nat):LI:=(range n).map λi=>k+(i:Nat)
def jY k n:E (QZ k n)=n:=by simp[QZ]
def VC{k}(h:j<n):U (QZ k n) j 0=k+(j:Nat):=by
 unfold QZ;rw[gD,bK,getElem?_range h];rfl
structure Og(g:Nat)(w w':oX):Prop where
 os:w'.os=w.os
 tape:w'.tape=w.tape
 output:w'.output=w.output
 size:J w'.1=J w.1
 block:∀b,b≠g->w'.1[b]?=w.1[b]?
def Og.refl g w:Og g w w:=⟨rfl,rfl,rfl,rfl,λ_ _=>rfl⟩
def Og.set(h:Og g w w')o v:Og g w (sW w' (az g o) v):=
 ⟨h.os,h.tape,h.output,by simpa[World.setCell]using h.size,λb I=>(eG I).trans (h.block b I)⟩
def Og.zz(h:Og g w w')(I:N<=g):Below N w w':=
 ⟨h.os,h.tape,h.output,Nat.le_of_eq h.size.symm,λb hb=>h.block b Oo⟩
def qJ{a b}(h:a=b):Ending.returned (oB a)=rE (oB b):=by rw[h]
def xV(l:LI)(j:Nat):Bool:=oD (0<=U l j 0)&&oD (U l j 0<6)&&(oD (j=0)||oD (U l (j-1) 0<U l j 0))
def qb(l:LI):Bool:=(range (E l)).all (xV l)
def QI(h:∀i,i<E l->xV l i):qb l:=by
 unfold qb;rw[aT];intro i hi;exact h i (by simpa using hi)
def Vb(I:j<E l)(h:xV l j=nF):qb l=false:=by
 unfold qb;rw[all_eq_false];exact⟨j,by simpa using I,by rw[h];decide⟩
def Vc l j:
 (U l j 0<0/\xV l j=nF)\/(0<=U l j 0/\6<=U l j 0/\xV l j=nF)\/(0<=U l j 0/\U l j 0<6/\j=0/\xV l j)\/
 (0<=U l j 0/\U l j 0<6/\0<j/\U l j 0<=U l (j-1) 0/\xV l j=nF)\/(0<=U l j 0/\U l j 0<6/\0<j/\U l (j-1) 0<U l j 0/\xV l j):=by
 unfold xV;generalize U l j 0=x;generalize U l (j-1) 0=y;by_cases K:x<0;left;refine⟨K,?_⟩;simp;omega;by_cases M:6<=x;right;left;refine⟨Oo,M,?_⟩;simp;omega;by_cases I:j=0;right;right;left;refine⟨Oo,Oo,I,?_⟩;simp[I];omega;by_cases O:y<x;right;right;right;right;refine⟨Oo,Oo,Oo,O,?_⟩;simp;omega;right;right;right;left;refine⟨Oo,Oo,Oo,Oo,?_⟩;simp;omega
def zn w v(h:IS w v l)(hl:E l<=1099511627776):
 aF 109 #[v] w (oB (qb l)) λw'=>w'=w:=by
 obtain⟨a,cap,rfl,hc⟩:=h;obtain⟨n,hn⟩:=Ex (E l);obtain⟨res,K⟩:=Ex (qb l);rw[<-K];change Hh _ at K;rw[<-hn]at hc hl |-;have HC:=ay hc;have HN:=ay hn;clear hc hn;go_enter func109,ntmps109;go_wp2;go_loop [7] (λt=>∃j:Nat,j<=n/\t=ai j/\Hh (∀i,i<j->xV l i)) (λt=>n-(intOf t).toNat);exact⟨0,nZ _,rfl,ay (λi hi=>Oo)⟩;obtain⟨j,hj,rfl,O⟩:=hrel;by_cases a3:j<n
 .have i1:(j:Int)<n:=Oo;rcases HC.o with h0|⟨b,o,rfl,I⟩;omega;have c1:=I j a3;have a4:=Vc l j;have fin:xV l j=nF->Hh (res=nF):=λe=>K.o.trans (Vb (by rw[<-HN.o];exact a3) e);have nxt:xV l j->Hh (∀i,i<j+1->xV l i):=λe i hi=>by
   by_cases e2:i=j;rw[e2];exact e;exact O i Oo
  have c2:0<j->aC w b (o+(j-1)) (ai (U l (j-1) 0)):=λe=>I _ Oo;clear I O;generalize U l j 0=x,U l (j-1) 0=y at *;rcases a4 with ⟨h1,h2⟩|⟨h1,h2,V⟩|⟨h1,h2,V,h4⟩|⟨h1,h2,V,h4,h5⟩|⟨h1,h2,V,h4,h5⟩
  .have M:=fin h2;clear c2 fin nxt h2;go_wp2;go_ret;exact⟨qJ (by rw[M.o]),rfl⟩
  .have M:=fin V;have d1:oD (x<0)=false:=Sy;clear c2 fin nxt V;go_wp2;go_ret;exact⟨qJ (by rw[M.o]),rfl⟩
  .have M:=nxt h4;have d1:oD (x<0)=false:=Sy;have d2:oD (6<=x)=false:=Sy;subst V;have a5:aC w b o (ai x):=by simpa using c1
   clear c2 fin nxt h4;go_wp2;go_round;exact⟨0+1,Oo,Gg,M⟩;exact Im
  .have M:=fin h5;have d1:oD (x<0)=false:=Sy;have d2:oD (6<=x)=false:=Sy;have c3:=c2 V;have i3:(0:Int)<j:=Oo;have i4:((j:Int)-1).toNat=j-1:=Oo;clear c2 fin nxt h5;go_wp2;go_ret;exact⟨qJ (by rw[M.o]),rfl⟩
  have M:=nxt h5;have d1:oD (x<0)=false:=Sy;have d2:oD (6<=x)=false:=Sy;have d3:oD (x<=y)=false:=Sy;have c3:=c2 V;have i3:(0:Int)<j:=Oo;have i4:((j:Int)-1).toNat=j-1:=Oo;clear c2 fin nxt h5;go_wp2;go_round;exact⟨j+1,Oo,Gg,M⟩;exact Im
 obtain rfl:j=n:=Oo;have M:Hh (res):=K.o.trans (QI (λi hi=>O i (by rw[HN.o];exact hi)));have i1:¬((j:Int)<j):=Oo;clear O;go_wp2;go_ret;exact⟨qJ (by rw[M.o]),rfl⟩
def Jv(h:IS w v l)(hl:E l<=1099511627776):
 aF 55 #[v,ai 6] w (oB (qb l)) λw'=>w'=w:=by
 obtain⟨a,cap,rfl,hc⟩:=h;obtain⟨n,hn⟩:=Ex (E l);obtain⟨res,K⟩:=Ex (qb l);rw[<-K];change Hh _ at K;rw[<-hn]at hc hl |-;have HC:=ay hc;have HN:=ay hn;clear hc hn;go_enter func55,ntmps55;go_wp2;go_loop [9] (λt=>∃j:Nat,j<=n/\t=ai j/\Hh (∀i,i<j->xV l i)) (λt=>n-(intOf t).toNat);exact⟨0,nZ _,rfl,ay (λi hi=>Oo)⟩;obtain⟨j,hj,rfl,O⟩:=hrel;by_cases a3:j<n
 .have i1:(j:Int)<n:=Oo;rcases HC.o with h0|⟨b,o,rfl,I⟩;omega;have c1:=I j a3;have a4:=Vc l j;have fin:xV l j=nF->Hh (res=nF):=λe=>K.o.trans (Vb (by rw[<-HN.o];exact a3) e);have nxt:xV l j->Hh (∀i,i<j+1->xV l i):=λe i hi=>by
   by_cases e2:i=j;rw[e2];exact e;exact O i Oo
  have c2:0<j->aC w b (o+(j-1)) (ai (U l (j-1) 0)):=λe=>I _ Oo;clear I O;generalize U l j 0=x,U l (j-1) 0=y at *;rcases a4 with ⟨h1,h2⟩|⟨h1,h2,V⟩|⟨h1,h2,V,h4⟩|⟨h1,h2,V,h4,h5⟩|⟨h1,h2,V,h4,h5⟩
  .have M:=fin h2;clear c2 fin nxt h2;go_wp2_with (go_at_call 27;apply (vL Oo).mono;rintro e w' ⟨rfl,rfl⟩);go_ret;exact⟨qJ (by rw[M.o]),rfl⟩
  .have M:=fin V;have d1:oD (x<0)=false:=Sy;clear c2 fin nxt V;go_wp2_with (go_at_call 27;apply (vM Oo Oo).mono;rintro e w' ⟨rfl,rfl⟩);go_ret;exact⟨qJ (by rw[M.o]),rfl⟩
  .have M:=nxt h4;have d1:oD (x<0)=false:=Sy;have d2:oD (6<=x)=false:=Sy;subst V;have a5:aC w b o (ai x):=by simpa using c1
   clear c2 fin nxt h4;go_wp2_with (go_at_call 27;apply (zP Oo Oo).mono;rintro e w' ⟨rfl,rfl⟩);go_round;exact⟨0+1,Oo,Gg,M⟩;exact Im
  .have M:=fin h5;have d1:oD (x<0)=false:=Sy;have d2:oD (6<=x)=false:=Sy;have c3:=c2 V;have i3:(0:Int)<j:=Oo;have i4:((j:Int)-1).toNat=j-1:=Oo;clear c2 fin nxt h5;go_wp2_with (go_at_call 27;apply (zP Oo Oo).mono;rintro e w' ⟨rfl,rfl⟩);go_ret;exact⟨qJ (by rw[M.o]),rfl⟩
  have M:=nxt h5;have d1:oD (x<0)=false:=Sy;have d2:oD (6<=x)=false:=Sy;have d3:oD (x<=y)=false:=Sy;have c3:=c2 V;have i3:(0:Int)<j:=Oo;have i4:((j:Int)-1).toNat=j-1:=Oo;clear c2 fin nxt h5;go_wp2_with (go_at_call 27;apply (zP Oo Oo).mono;rintro e w' ⟨rfl,rfl⟩);go_round;exact⟨j+1,Oo,Gg,M⟩;exact Im
 obtain rfl:j=n:=Oo;have M:Hh (res):=K.o.trans (QI (λi hi=>O i (by rw[HN.o];exact hi)));have i1:¬((j:Int)<j):=Oo;clear O;go_wp2;go_ret;exact⟨qJ (by rw[M.o]),rfl⟩
def yT(h:j<E l):U l j 0∈l:=by
 rw[gD,gE h];exact gM h
def yw{x}(h:x∈l):∃j,j<E l/\U l j 0=x:=by
 have⟨j,I,e⟩:=gO h;exact⟨j,I,by rw[gD,gE I];exact e⟩
def ze w v l x(h:IS w v l)(hl:E l<=1099511627776):
 aF 43 #[v,ai x] w (oB (oD (x∈l))) λw'=>w'=w:=by
 obtain⟨a,cap,rfl,hc⟩:=h;have⟨n,hn⟩:=Ex (E l);have⟨res,I⟩:=Ex (oD (x∈l));rw[<-I];change Hh _ at I;rw[<-hn]at hc hl |-;have HC:=ay hc;have HN:=ay hn;clear hc hn;go_enter func43,ntmps43;go_wp2;go_loop [9] (λt=>∃j:Nat,j<=n/\t=ai j/\Hh (∀i,i<j->U l i 0≠x)) (λt=>n-(intOf t).toNat);exact⟨0,eC,rfl,ay (λi hi=>Oo)⟩;obtain⟨j,hj,rfl,M⟩:=hrel;by_cases O:j<n
 .have i1:=aV O;rcases HC.o with h0|⟨b,o,rfl,K⟩;omega;have c1:=K j O;have fin:U l j 0=x->Hh (res):=λe=>I.o.trans (fD (e ▸ yT (by rw[<-HN.o];exact O)));have nxt:U l j 0≠x->Hh (∀i,i<j+1->U l i 0≠x):=λe i hi=>by
   by_cases e2:i=j;rw[e2];exact e;exact M i Oo
  clear K M;generalize U l j 0=y at *;by_cases hy:y=x
  .have V:=fin hy;subst hy;clear fin nxt;go_wp2;go_ret;exact⟨qJ (by rw[V.o]),rfl⟩
  have V:=nxt hy;have d1:oD (x=y)=false:=Sy;have d2:¬(x=y):=Oo;clear fin nxt;go_wp2;go_round;exact⟨j+1,Oo,Gg,V⟩;exact Im
 obtain rfl:j=n:=Oo;have V:Hh (res=nF):=I.o.trans (fC (λhm=>by
  have⟨i,hi,e⟩:=yw hm;exact M i (by rw[HN.o];exact hi) e))
 have i1:=aY j;clear M;go_wp2;go_ret;exact⟨qJ (by rw[V.o]),rfl⟩
def qBY w v l x(h:IS w v l)(hl:E l<=1099511627776):
 Cl 87 #[v,ai x] w λe w'=>(∃k,e=rE (ai k)/\oD (0<=k)=oD (x∈l))/\w'=w:=by
 obtain⟨a,cap,rfl,hc⟩:=h;have⟨n,hn⟩:=Ex (E l);have⟨res,I⟩:=Ex (oD (x∈l));rw[<-I];change Hh _ at I;rw[<-hn]at hc hl |-;have HC:=ay hc;have HN:=ay hn;clear hc hn;go_enter func87,ntmps87;go_wp2;go_loop [8] (λt=>∃j:Nat,j<=n/\t=ai j/\Hh (∀i,i<j->U l i 0≠x)) (λt=>n-(intOf t).toNat);exact⟨0,eC,rfl,ay (λi hi=>Oo)⟩;obtain⟨j,hj,rfl,M⟩:=hrel;by_cases O:j<n
 .have i1:=aV O;rcases HC.o with h0|⟨b,o,rfl,K⟩;omega;have c1:=K j O;have fin:U l j 0=x->Hh (res):=λe=>I.o.trans (fD (e ▸ yT (by rw[<-HN.o];exact O)));have nxt:U l j 0≠x->Hh (∀i,i<j+1->U l i 0≠x):=λe i hi=>by
   by_cases e2:i=j;rw[e2];exact e;exact M i Oo
  clear K M;generalize U l j 0=y at *;by_cases hy:y=x
  .have V:=fin hy;subst hy;clear fin nxt;go_wp2;go_ret;exact⟨⟨_,rfl,by rw[V.o];simp⟩,rfl⟩
  have V:=nxt hy;have d1:oD (x=y)=false:=Sy;have d2:¬(x=y):=Oo;clear fin nxt;go_wp2;go_round;exact⟨j+1,Oo,Gg,V⟩;exact Im
 obtain rfl:j=n:=Oo;have V:Hh (res=nF):=I.o.trans (fC (λhm=>by
  have⟨i,hi,e⟩:=yw hm;exact M i (by rw[HN.o];exact hi) e))
 have i1:=aY j;clear M;go_wp2;go_ret;exact⟨⟨_,rfl,by rw[V.o];simp⟩,rfl⟩
def xt w v l x(h:IS w v l)(hl:E l<=1099511627776):
 aF 67 #[v,ai x] w (oB (oD (x∈l))) λw'=>w'=w:=by
 have I:=ay (qBY w v l x h hl);generalize oD (x∈l)=res at *;clear h;go_enter func67,ntmps67;go_wp2_with (go_at_call 87;apply I.o.mono;rintro e w' ⟨⟨k,rfl,K⟩,rfl⟩);go_ret;exact⟨rfl,rfl⟩
def Tryz.infoInt:(Tryz.prog.info? 3).map (λi=>(i.zero,i.size,i.bytes))=Q (Q (ai 0),1,8):=Kl
def plc(p:NB)(k:Nat):LI:=((range k).filter p).map Int.ofNat
def Qe p k(h:p k):plc p (k+1)=plc p k++[(k:Int)]:=by
 simp[plc,range_succ,filter_append,h]
def kQ p k(h:p k=nF):plc p (k+1)=plc p k:=by
 simp[plc,range_succ,filter_append,h]
def xq p k:E (plc p k)<=k:=by
 unfold plc;rw[lM];exact bM (dH _ _) Ss
def Q0{e o}{xs:LV}(hB:B<=J wr.1)
 (K:oW wr B e 1 u n xs) (M:Below B w wr) (I:(S wr o).grownBy w1 u.ownBlock):Below B w w1:=
 (M.alloc hB o).grown I Sy (λj O=>(K.lt j O).1)
def zq w vb ve bag I(h:IS w vb bag)(he:IS w ve I)(hl:E bag<=1099511627776)(a7:E I<=1099511627776):
 Cl 124 #[vb,ve] w λe w'=>∃v,e=rE v/\
  oW w' (J w.1) 3 1 v (E (plc (λi=>oD (U bag i 0∈I)) (E bag))) ((plc (λi=>oD (U bag i 0∈I)) (E bag)).map ai)/\Bl w w':=by
 have⟨i0,hi,a8,a9,b1⟩:=aX Tryz.infoInt;have⟨p,hp⟩:=Ex (λi=>oD (U bag i 0∈I));rw[<-hp];obtain⟨a,cap,rfl,hc⟩:=h;have⟨n,hn⟩:=Ex (E bag);rw[<-hn]at hc hl |-;have HP:=ay hp;have HC:=ay hc;have HN:=ay hn;have HE:=ay he;clear hp hc hn he;go_enter func124,ntmps124;go_wp2;go_loopw [5,10] (λv t wr=>∃k:Nat,k<=n/\t=ai k/\oW wr (J w.1) 3 1 v (E (plc p k)) ((plc p k).map ai)/\Bl w wr) (λ_ t _=>n-(intOf t).toNat);exact⟨0,eC,rfl,eK,eB⟩;obtain⟨k,hk,rfl,K,M⟩:=hrel;have c7:=xq p k;have b7:=M.size;by_cases b8:k<n
 .have i1:=aV b8;rcases HC.o with h0|⟨b,o,rfl,O⟩;omega;have c0:=O k b8;have c1:=(M.cell (bL w _ c0)).trans c0;have HK:=ay (xt _ _ I (U bag k 0) (HE.o.zz M) a7);have a5:p k=oD (U bag k 0∈I):=by rw[HP.o]
  rw[<-a5]at HK;clear O c0 a5;generalize U bag k 0=y at *;by_cases hy:p k
  .have e1:=ay (Qe p k hy);rw[hy]at HK;go_wp2_with (first
    |(go_at_call 67;apply HK.o.mn;intro w' b9;subst w')
    |(at_builtin;refine eP _ rfl _ _ 24 rfl _ 3 _ _ 1 8 underlying24 hi a8 a9 b1 rfl Dd _ _ _ rfl (K.alloc _) (az _ 0) 1 1 [ai k] rfl rfl ?c1 ?c2 ?c3 ?c4 ?c5 ?_))
   case c1=>
    intro j u hj;match j,hj with
    |0,hj=>simp at hj;subst hj;simp[Addr.add]
   case c2=>intro u hu;simp at hu;subst hu;rfl
   case c3=>unfold maxLen;omega
   case c4=>omega
   case c5=>simp;omega
   intro v' w1 V a3 _;have hb:=Q0 b7 K M a3;have a4:oW w1 (J w.1) 3 1 v' (E (plc p (k+1))) ((plc p (k+1)).map ai):=by
    rw[e1.o];simpa using V
   clear V a3 K;go_wp2;go_roundw;exact⟨k+1,Oo,Gg,a4,hb⟩;exact Im
  have a6:p k=false:=by simpa using hy
  have e1:=ay (kQ p k a6);rw[a6]at HK;go_wp2_with (first
   |(go_at_call 67;apply HK.o.mn;intro w' b9;subst w'))
  go_roundw;exact⟨k+1,Oo,Gg,by rw[e1.o];exact K,M⟩;exact Im
 obtain rfl:k=n:=Oo;have i1:=aY k;go_wp2;go_ret;exact⟨_,rfl,K,M⟩
def ISS(w:oX)(v:oV)(ls:LL):Prop:=∃a cap,v=Z a (E ls) cap/\(E ls=0\/∃b o,a=Q (az b o)/\∀j,j<E ls->∃u,eQ w (az b (o+j))=Q u/\IS w u (U ls j []))
def ISS.zz(h:ISS w v ls)(hb:Bl w w'):ISS w' v ls:=by
 obtain⟨a,cap,rfl,h⟩:=h;refine⟨a,cap,rfl,?_⟩;rcases h with h|⟨b,o,rfl,h⟩;exact .inl h;refine .inr ⟨b,o,rfl,λj K=>?_⟩;have⟨u,I,M⟩:=h j K;exact⟨u,(hb.cell (bL w _ I)).trans I,M.zz hb⟩
def qS(ls:LL):Prop:=E ls<=1099511627776/\∀j,E (U ls j [])<=1099511627776
def ye w ve x{es}(h:ISS w ve es)(hl:qS es):
 Cl 108 #[ai x,ve] w λe w'=>∃v,e=rE v/\
  oW w' (J w.1) 3 1 v (E (plc (λi=>oD (x∈U es i [])) (E es))) ((plc (λi=>oD (x∈U es i [])) (E es)).map ai)/\Bl w w':=by
 obtain⟨i0,hi,a7,a8,a9⟩:=aX Tryz.infoInt;obtain⟨p,hp⟩:=Ex (λi=>oD (x∈U es i _));rw[<-hp];obtain⟨a,cap,rfl,hc⟩:=h;obtain⟨b1,a4⟩:=hl;obtain⟨n,hn⟩:=Ex (E es);rw[<-hn]at hc b1 |-;change Hh _ at hp hc hn a4;go_enter func108,ntmps108;go_wp2;go_loopw [5,10] (λv t wr=>∃k:Nat,k<=n/\t=ai k/\oW wr (J w.1) 3 1 v (E (plc p k)) ((plc p k).map ai)/\Bl w wr) (λ_ t _=>n-(intOf t).toNat);exact⟨0,eC,rfl,eK,eB⟩;obtain⟨k,hk,rfl,I,K⟩:=hrel;have c7:=xq p k;have b7:=K.size;by_cases b8:k<n
 .have i1:=aV b8;rcases hc.o with h0|⟨b,o,rfl,M⟩;omega;obtain⟨u,c0,hu⟩:=M k b8;have c1:=(K.cell (bL w _ c0)).trans c0;have HK:=ay (xt _ u _ x (hu.zz K) (a4 k));have a5:p k=oD (x∈U es k []):=by rw[hp.o]
  rw[<-a5]at HK;obtain⟨a1,c8,rfl,-⟩:=hu;clear M c0 a5;generalize E (U es k [])=m at *;by_cases hy:p k
  .have e1:=ay (Qe p k hy);rw[hy]at HK;go_wp2_with (first
    |(go_at_call 67;apply HK.o.mn;intro w' b9;subst w')
    |(at_builtin;refine eP _ rfl _ _ 24 rfl _ 3 _ _ 1 8 underlying24 hi a7 a8 a9 rfl Dd _ _ _ rfl (I.alloc _) (az _ 0) 1 1 [ai k] rfl rfl ?c1 ?c2 ?c3 ?c4 ?c5 ?_))
   case c1=>
    intro j u hj;match j,hj with
    |0,hj=>simp at hj;subst hj;simp[Addr.add]
   case c2=>intro u hu;simp at hu;subst hu;rfl
   case c3=>unfold maxLen;omega
   case c4=>omega
   case c5=>simp;omega
   intro v' w1 O V _;have hb:=Q0 b7 I K V;have a3:oW w1 (J w.1) 3 1 v' (E (plc p (k+1))) ((plc p (k+1)).map ai):=by
    rw[e1.o];simpa using O
   clear O V I;go_wp2;go_roundw;exact⟨k+1,Oo,Gg,a3,hb⟩;exact Im
  have a6:p k=false:=by simpa using hy
  have e1:=ay (kQ p k a6);rw[a6]at HK;go_wp2_with (first
   |(go_at_call 67;apply HK.o.mn;intro w' b9;subst w'))
  go_roundw;exact⟨k+1,Oo,Gg,by rw[e1.o];exact I,K⟩;exact Im
 obtain rfl:k=n:=Oo;have i1:=aY k;go_wp2;go_ret;exact⟨_,rfl,I,K⟩
def tot(ls:LL)(k:Nat):Nat:=E ls+((ls.take k).map List.length).sum
def YI ls:tot ls 0=E ls:=by simp[tot]
def Qv ls k(h:k<E ls):tot ls (k+1)=tot ls k+E (U ls k []):=by
 unfold tot;rw[tA,gE h,gD,gE h];simp only[iK,mA,map_cons,map_nil,sum_append,sum_cons,sum_nil,dI];omega
def qAX ls:∀d k,k+d=E ls->tot ls k<=tot ls (E ls):=by
 intro d;induction d with
 |zero=>intro k h;rw[show k=E ls by omega];exact eA
 |succ d ih=>
  intro k h;have I:=ih (k+1) Oo;have K:=Qv ls k Oo;omega
def Fits(ls:LL):Prop:=E ls<=9223372036854775807/\∀j,E (U ls j [])<=9223372036854775807
def Xt ls j:E (U ls j [])<=tot ls (E ls):=by
 by_cases h:j<E ls;have I:=Qv _ j h;have K:=qAX ls (E ls-(j+1)) (j+1) Oo;omega;rw[gD,gN Oo];simp
def qAY(h:tot ls (E ls)<=1048576):qS ls:=by
 have I:=qAX ls (E ls) 0 Oo;rw[YI]at I;exact⟨Oo,λj=>O1 (Xt ls j)⟩
def qAZ(ls:LL)(left:Int):Int:=if left<tot ls (E ls) then -1 else left-tot ls (E ls)
def ZK w left(h:ISS w ve ls)(hl:Fits ls)(h1:0<=left)(h2:left<=1048576):
 aF 22 #[ve,ai left] w (ai (qAZ ls left)) λw'=>w'=w:=by
 obtain⟨a,cap,rfl,hc⟩:=h;have⟨a6,V⟩:=hl;obtain⟨n,hn⟩:=Ex (E ls);obtain⟨res,I⟩:=Ex (qAZ ls left);rw[<-I];unfold qAZ at I;rw[<-hn]at hc a6 I |-;change Hh _ at I hc hn V;have HT:Hh (∀k,k<=n->tot ls k<=tot ls n):=λk hk=>by
  have:=qAX ls (E ls-k) k (by rw[<-hn.o];omega);rwa[<-hn.o]at this
 have HS:Hh (∀k,k<n->tot ls (k+1)=tot ls k+E (U ls k [])):=λk hk=>Qv _ k (by rw[<-hn.o];exact hk);have H0:Hh (tot ls 0=n):=(YI ls).trans hn.o.symm;by_cases O:left<n
 .have a7:left-(n:Int)<0:=Oo;have a8:Hh (res=-1):=by
   have t0:=HT 0 Oo;rw[H0.o]at t0;exact I.o.trans (fE Oo)
  go_enter func22,ntmps22;go_wp2;go_ret;exact⟨qa a8.o.symm,rfl⟩
 have a7:¬(left-(n:Int)<0):=Oo;go_enter func22,ntmps22;go_wp2;go_loop [1,5] (λu t=>∃j:Nat,j<=n/\t=ai j/\∃c:Int,u=ai c/\0<=c/\c<=left/\Hh (c=left-tot ls j)) (λ_ t=>n-(intOf t).toNat);exact⟨0,eC,rfl,_,rfl,Oo,Oo,ay (by rw[H0.o])⟩;obtain⟨j,hj,rfl,c,rfl,a9,hc1,M⟩:=hrel;by_cases a3:j<n
 .have i1:=aV a3;rcases hc.o with h0|⟨b,o,rfl,K⟩;omega;obtain⟨u,c1,hu⟩:=K j a3;have hs:=HS j a3;have hm:=V j;obtain⟨a1,a4,rfl,-⟩:=hu;have ht:=HT (j+1) Oo;have ho:=M.o;clear K M;generalize E (U ls j [])=m at *;have HK:=ay (ym w a1 m a4 c a9 Oo Oo);by_cases a5:c<m
  .have O:=ay (I.o.trans (fE Oo));rw[fE a5]at HK;clear hs ht ho;go_wp2_with (go_at_call 23;apply HK.o.mn;intro w' b1;subst w');go_ret;exact⟨qa O.o.symm,rfl⟩
  have O:Hh (c-m=left-tot ls (j+1)):=ay Oo;have b7:¬(c-(m:Int)<0):=Oo;rw[fF a5]at HK;clear hs ht ho;go_wp2_with (go_at_call 23;apply HK.o.mn;intro w' b1;subst w');go_round;exact⟨j+1,Oo,Gg,_,rfl,Oo,Oo,O⟩;exact Im
 obtain rfl:j=n:=Oo;have ho:=M.o;have O:Hh (res=c):=I.o.trans (by rw[fF Oo];omega);have i1:=aY j;clear M ho;go_wp2;go_ret;exact⟨qa O.o.symm,rfl⟩
structure Half(w:oX)(G n j:Nat)(ls:LL)(f:NN):Prop where
 cell:∀i,i<n->eQ w (az G i)=Q (if i<j then Z (Q (az (f i) 0)) (E (U ls i [])) (E (U ls i [])) else sn)
 L:∀i,i<n->w.frozen? (az G i)=nF
 z:∀i,i<j->OwnI w (f i) (U ls i [])
 gt:∀i,i<j->G<f i
 up:∀i k,i<k->k<j->f i<f k
def Half.P{f}(h:Half w G n j ls f)(V:j<n)(K:G<J w.1)
 (ho:OwnI w1 (J w.1) (U ls j [])) (hb:Bl w w1):
 Half (sW w1 (az G j) (Z (Q (az (J w.1) 0)) (E (U ls j [])) (E (U ls j [])))) G n (j+1) ls (λi=>if i=j then J w.1 else f i):=by
 have M:=
  λi hi=>(hb.cell K).trans (h.cell i hi)
 have hsz:∀(a:Addr) (v:oV),J (w1.setCell a v).1=J w1.1:=λa v=>by simp[World.setCell]
 refine⟨λi hi=>?_,λi hi=>?_,λi hi=>?_,λi hi=>?_,λi k hik hk=>?_⟩
 .by_cases e:i=j;subst e;rw[fE Oo,fE rfl];exact eJ (M i hi);rw[eE (by intro I;simp only[aI]at I;omega),M i hi,fF e];by_cases I:i<j;rw[fE I,fE Oo];rw[fF I,fF Oo]
 rw[fS];exact(dA (hb.block G K)).trans (h.L i hi)
 .by_cases e:i=j;subst e;rw[fE rfl];exact ho.A (eG (by show J w.1≠G;omega)) (by rw[hsz];exact eA);rw[fF e];have O:=h.gt i Oo;exact((h.z i Oo).zz hb).A (eG (by show f i≠G;omega)) (by rw[hsz];exact eA)
 .show G<(if i=j then J w.1 else f i);by_cases e:i=j;rw[fE e];exact K;rw[fF e];exact h.gt i Oo
 show(if i=j then J w.1 else f i)<(if k=j then J w.1 else f k);rw[fF Oo];by_cases e:k=j;rw[fE e];exact(h.z i Oo).lt;rw[fF e];exact h.up i k hik Oo
def ZL(h:ISS w v ls)(hl:qS ls):
 aF 30 #[v] w (sZ (J w.1) 0 (E ls) (E ls)) λw'=>(∃f,Half w' (J w.1) (E ls) (E ls) ls f)/\J w.1<J w'.1/\Bl w w':=by
 obtain⟨a,cap,rfl,hc⟩:=h;have⟨a5,V⟩:=hl;have⟨n,hn⟩:=Ex (E ls);rw[<-hn]at hc a5 |-;have a9:=run_make_row' 23 24 sn 24 underlying23 Kl rfl .i64 .i64 n Oo Oo;have O:=dZ w (eZ (madeCells #[sn] n) 24);have a3:∀j,j<n->eQ (aJ w (madeCells #[sn] n) 24) (az (J w.1) j)=Q sn:=λj hj=>by rw[eI O];exact Qu hj
 have a4:∀j,(aJ w (madeCells #[sn] n) 24).frozen? (az (J w.1) j)=false:=λj=>by unfold World.frozen?;rw[O];simp
 change Hh _ at a3 a4;clear O;change Hh _ at hc hn V;go_enter func30,ntmps30;go_wp2;go_loopw [4] (λt wr=>∃j:Nat,j<=n/\t=ai j/\Bl w wr/\J w.1<J wr.1/\Hh (∃f,Half wr (J w.1) n j ls f)) (mZ n);exact⟨0,eC,rfl,aK,Ss,ay ⟨λ_=>0,λi hi=>by rw[fF Oo];exact a3 i hi,λi _=>a4 i,λi hi=>Oo,λi hi=>Oo,λi k _ hk=>Oo⟩⟩;obtain⟨j,hj,rfl,hB,K,hH⟩:=hrel;by_cases M:j<n
 .have i1:=aV M;rcases hc.o with h0|⟨b,o,rfl,I⟩;omega;have⟨u,c0,hu⟩:=I j M;have c1:=(hB.cell (bL w _ c0)).trans c0;have HK:=ay (yH _ u (hu.zz hB) (V j));obtain⟨a1,a8,rfl,-⟩:=hu;have c2:aC wr (J w.1) j sn:=by
   have⟨f,hf⟩:=hH.o;exact(hf.cell j M).trans (by rw[fF Oo])
  have c3:wr.frozen? (az (J w.1) j)=false:=by
   have⟨f,hf⟩:=hH.o;exact hf.L j M
  have HS:Hh (∀w1,OwnI w1 (J wr.1) (U ls j [])->Bl wr w1->∃f,Half (sC w1 (J w.1) j (Z (Q (az (J wr.1) 0)) (E (U ls j [])) (E (U ls j [])))) (J w.1) n (j+1) ls f):=λw1 ho hb=>by
   have⟨f,hf⟩:=hH.o;exact⟨_,hf.P M K ho hb⟩
  clear I c0 hH;go_wp2_with (go_at_call 9;apply HK.o.mn;rintro w1 ⟨ho,hb⟩;have c4:=(hb.cell K).trans c2;have c5:=(dA (hb.block (J w.1) K)).trans c3;have HO:=ay ho;have HB:=ay hb;clear ho hb);go_roundw;exact⟨j+1,Oo,Gg,(bt hB HB).setCell eA _,by have:=HB.o.size;simp[World.setCell];omega,ay (HS _ HO HB)⟩;exact Im
 obtain rfl:j=n:=Oo;have i1:=aY j;go_wp2;go_ret;exact⟨rfl,hH,K,hB⟩
def zh(h:∃m,wr=w.drewN m):∃m,wr.drewN k=w.drewN m:=by
 obtain⟨m,rfl⟩:=h;exact⟨m+k,drewN_drewN _ _ _⟩
def kN v(h:IS w v l)(h':IS w v' l)(hl:E l<=1099511627776):
 aF 12 #[v,v'] w (oB true) λw'=>∃m,w'=w.drewN m:=by
 obtain⟨a,cap,rfl,V⟩:=h;obtain⟨a',a4,rfl,M⟩:=h';have⟨n,hn⟩:=Ex (E l);rw[<-hn]at V M hl |-;change Hh _ at V M;clear hn;have a5:((n:Int) != (n:Int))=false:=Ss;go_enter func12,ntmps12;go_wp2;go_loopw [5] (λt wr=>∃j:Nat,j<=n/\t=ai j/\Hh (∃m,wr=w.drewN m)) (mZ n);exact⟨0,eC,rfl,ay ⟨0,rfl⟩⟩;obtain⟨j,hj,rfl,hB⟩:=hrel;by_cases O:j<n
 .have i1:=aV O;rcases V.o with h0|⟨b,o,rfl,K⟩;omega;rcases M.o with h0|⟨b',o',rfl,I⟩;omega;have c1:aC wr b (o+j) (ai (U l j 0)):=by obtain⟨m,rfl⟩:=hB.o;exact K j O
  have c2:aC wr b' (o'+j) (ai (U l j 0)):=by obtain⟨m,rfl⟩:=hB.o;exact I j O
  have⟨x,hx⟩:=Ex (U l j 0);rw[<-hx]at c1 c2;have a6:(x != x)=false:=Ss;clear K I hx;go_wp2_with fail;go_quiet (fail)
  go_wp2;go_roundw;exact⟨j+1,Oo,Gg,ay (zh hB)⟩;exact Im
 obtain rfl:j=n:=Oo;have i1:=aY j;go_wp2;go_ret;exact⟨rfl,hB⟩
def jZ w v(h:ISS w v ls)(h':ISS w v' ls)(hl:qS ls):
 aF 11 #[v,v'] w (oB true) λw'=>∃m,w'=w.drewN m:=by
 obtain⟨a,cap,rfl,hc⟩:=h;obtain⟨a',a6,rfl,M⟩:=h';have⟨a4,O⟩:=hl;have⟨n,hn⟩:=Ex (E ls);rw[<-hn]at hc M a4 |-;change Hh _ at hc M O;clear hn;have a9:((n:Int) != (n:Int))=false:=Ss;go_enter func11,ntmps11;go_wp2;go_loopw [5] (λt wr=>∃j:Nat,j<=n/\t=ai j/\Hh (∃m,wr=w.drewN m)) (mZ n);exact⟨0,eC,rfl,ay ⟨0,rfl⟩⟩;obtain⟨j,hj,rfl,hB⟩:=hrel;by_cases V:j<n
 .have i1:=aV V;rcases hc.o with h0|⟨b,o,rfl,K⟩;omega;rcases M.o with h0|⟨b',o',rfl,I⟩;omega;have⟨u,d1,hu⟩:=K j V;have⟨u',d2,a3⟩:=I j V;have c1:aC wr b (o+j) u:=by obtain⟨m,rfl⟩:=hB.o;exact d1
  have c2:aC wr b' (o'+j) u':=by obtain⟨m,rfl⟩:=hB.o;exact d2
  have HK:Hh (∀q,Cl 12 #[u,u'] (wr.drewN q) λe w'=>e=rE (oB true)/\∃m,w'=(wr.drewN q).drewN m):=λq=>by
   obtain⟨m,rfl⟩:=hB.o;exact kN u hu a3 (O j)
  obtain⟨a1,a7,rfl,-⟩:=hu;obtain⟨a2,a8,rfl,-⟩:=a3;clear K I d1 d2;go_wp2_with fail;go_quiet ((go_at_call 12;exact Calls.quiet_of (HK _)))
  go_wp2;go_roundw;exact⟨j+1,Oo,Gg,ay (zh hB)⟩;exact Im
 obtain rfl:j=n:=Oo;have i1:=aY j;go_wp2;go_ret;exact⟨rfl,hB⟩
section
variable {a b l lb:LI}{j n:Nat}{p:NB}{α:Type}{ve v:oV}{es:LL}{w:oX}
def zf(es:LL):Bool:=oD (E es<=7)&&es.all qb
def yk(bag:LI)(es:LL):Bool:=bag.all λx=>es.any λe=>oD (x∈e)
def ug p d(l:List α)(h:∀i,i<E l->p (U l i d)):l.all p:=by
 rw[aT];intro x K;have⟨j,I,e⟩:=gO K;have:=h j I;rw[gD,gE I]at this;rw[<-e];exact this
def xY p d(l:List α)j(I:j<E l)(h:p (U l j d)=nF):l.all p=false:=by
 rw[all_eq_false];rw[gD,gE I]at h;exact⟨_,gM I,by simpa using h⟩
def Xp p k:E (plc p k)=0↔∀i,i<k->p i=false:=by
 unfold plc;rw[lM,dV,filter_eq_nil_iff];simp
def qCl x(es:LL):(es.any λe=>oD (x∈e))=!oD (E (plc (λi=>oD (x∈U es i [])) (E es))=0):=by
 cases hb:(es.any λe=>oD (x∈e))
 rw[eq_comm,nU,dE,Xp];intro i hi;rw[any_eq_false]at hb;have:=hb _ (gM hi);rw[gD,gE hi];simpa using this;rw[eq_comm,eY,aP,Xp];intro I;rw[any_eq_true]at hb;have⟨e,O,K⟩:=hb;have⟨j,M,V⟩:=gO O;have:=I j M;rw[gD,gE M]at this;simp only[dI,V]at this;rw[this]at K;exact Bool.noConfusion K
def QV w(h:ISS w ve es)(hl:qS es):
 aF 106 #[ve] w (oB (zf es)) λw'=>w'=w:=by
 obtain⟨a,cap,rfl,hc⟩:=h;have⟨a4,V⟩:=hl;have⟨n,hn⟩:=Ex (E es);have⟨res,I⟩:=Ex (zf es);rw[<-I];rw[<-hn]at hc a4 |-;change Hh _ at I hc hn V;by_cases h7:7<n
 .have O:Hh (res=nF):=I.o.trans (by unfold zf;rw[<-hn.o,fC Oo];rfl);have i7:=aV h7;go_enter func106,ntmps106;go_wp2;go_ret;exact⟨qJ (by rw[O.o]),rfl⟩
 have i7:¬(7:Int)<n:=Oo;go_enter func106,ntmps106;go_wp2;go_loop [10] (λt=>∃j:Nat,j<=n/\t=ai j/\Hh (∀i,i<j->qb (U es i []))) (λt=>n-(intOf t).toNat);exact⟨0,eC,rfl,ay (λi hi=>Oo)⟩;obtain⟨j,hj,rfl,M⟩:=hrel;by_cases a3:j<n
 .have i1:=aV a3;rcases hc.o with h0|⟨b,o,rfl,K⟩;omega;have⟨u,c1,hu⟩:=K j a3;have HK:=ay (zn w u hu (V j));obtain⟨a1,a6,rfl,-⟩:=hu;have fin:qb (U es j [])=nF->Hh (res=nF):=λe=>I.o.trans (by
   unfold zf;rw[xY qb [] es j (hn.o▸a3) e,pT])
  have nxt:qb (U es j [])->Hh (∀i,i<j+1->qb (U es i [])):=λe i hi=>by
   by_cases e2:i=j;rw[e2];exact e;exact M i Oo
  clear K M;generalize E (U es j [])=m,qb (U es j [])=y at *;cases y
  .have O:=fin rfl;clear fin nxt;go_wp2_with (go_at_call 109;apply HK.o.mn;intro w' a5;subst w');go_ret;exact⟨qJ (by rw[O.o]),rfl⟩
  have O:=nxt rfl;clear fin nxt;go_wp2_with (go_at_call 109;apply HK.o.mn;intro w' a5;subst w');go_round;exact⟨j+1,Oo,Gg,O⟩;exact Im
 obtain rfl:j=n:=Oo;have O:Hh (res):=I.o.trans (by
  unfold zf;rw[<-hn.o,fD Oo,dG];exact ug qb _ _ (λi hi=>M i (hn.o▸hi)))
 have i1:=aY j;clear M;go_wp2;go_ret;exact⟨qJ (by rw[O.o]),rfl⟩
def JU w{vb bag}(hb:IS w vb bag)(h:ISS w ve es)(a8:E bag<=1099511627776)(hl:qS es):
 aG 147 #[vb,ve] w (oB (yk bag es)):=by
 obtain⟨a,cap,rfl,hc⟩:=hb;have⟨n,hn⟩:=Ex (E bag);have⟨res,K⟩:=Ex (yk bag es);rw[<-K];rw[<-hn]at hc a8 |-;have HR:=ay K;have HC:=ay hc;have HN:=ay hn;have HE:=ay h;have HL:=ay hl;clear hc hn h hl K;go_enter func147,ntmps147;go_wp2;go_loopw [9] (λt wr=>∃j:Nat,j<=n/\t=ai j/\Bl w wr/\Hh (∀i,i<j->(es.any λe=>oD (U bag i 0∈e)))) (mZ n);exact⟨0,eC,rfl,eB,ay (λi hi=>Oo)⟩;obtain⟨j,hj,rfl,M,V⟩:=hrel;by_cases a6:j<n
 .have i1:=aV a6;rcases HC.o with h0|⟨b,o,rfl,O⟩;omega;have c0:=O j a6;have c1:=(M.cell (bL w _ c0)).trans c0;have HK:=ay (ye _ _ (U bag j 0) (HE.o.zz M) HL);have I:=qCl (U bag j 0) es;have fin:(es.any λe=>oD (U bag j 0∈e))=nF->Hh (res=nF):=λe=>HR.o.trans (by
   unfold yk;exact xY _ 0 _ j (HN.o▸a6) e)
  have nxt:(es.any λe=>oD (U bag j 0∈e))->Hh (∀i,i<j+1->(es.any λe=>oD (U bag i 0∈e))):=λe i hi=>by
   by_cases e2:i=j;rw[e2];exact e;exact V i Oo
  have hlen:=xq (λi=>oD (U bag j 0∈U es i [])) (E es);have a9:=HL.1;clear O V c0;generalize U bag j 0=x at *;generalize plc (λi=>oD (x∈U es i [])) (E es)=pl,(es.any λe=>oD (x∈e))=y at *;have⟨m,hm⟩:=Ex (E pl);rw[<-hm]at I hlen HK;have b7:m<=1099511627776:=Oo;clear hlen a9 hm;cases y
  .have hf:=fin rfl;have a4:m=0:=by simpa using I
   clear fin nxt I;subst a4;go_wp2_with (go_at_call 108;apply HK.o.mono;rintro e w' ⟨v,rfl,⟨b1,⟨rfl,a3⟩|⟨g,a7,cur,rfl,a3⟩⟩,a5⟩);all_goals go_ret
   all_goals exact⟨qJ (by rw[hf.o]),bt M a5⟩
  have hf:=nxt rfl;have a4:m≠0:=by simpa using I
  have b8:¬((m:Int)=0):=Oo;clear fin nxt I;go_wp2_with (go_at_call 108;apply HK.o.mono;rintro e w' ⟨v,rfl,⟨b1,⟨rfl,a3⟩|⟨g,a7,cur,rfl,a3⟩⟩,a5⟩);exact absurd a3 a4;go_roundw;exact⟨j+1,Oo,Gg,bt M a5,hf⟩;exact Im
 obtain rfl:j=n:=Oo;have hf:Hh (res):=HR.o.trans (by
  unfold yk;exact ug _ 0 _ (λi hi=>V i (HN.o▸hi)))
 have i1:=aY j;clear V;go_wp2;go_ret;exact⟨qJ (by rw[hf.o]),M⟩
def zy(k:Int)(l:LI):Bool:=oD (E l=0)||oD (U l (E l-1) 0<k)
def zr(es:LL)(x:Int):Bool:=es.any λe=>oD (x∈e)
def xN(k:Int)(es:LL):Bool:=oD (0<=k)&&oD (k<=6)&&zf es&&es.all (zy k)&&(range k.toNat).all λv=>zr es (v:Int)
def xU(k:Int)(b:LI):Bool:=!oD (E b=0)&&qb b&&zy k b
def yf(k:Int)(bags:LL):Bool:=oD (E bags<=12)&&bags.all (xU k)
def vH(n:Int)(ps:LI)(i:Nat):Bool:=oD (U ps i 0=-1)||(oD ((i:Int)<U ps i 0)&&oD (U ps i 0<n))
def xH(ps:LI)(n:Int):Bool:=oD ((E ps:Int)=n)&&(range (E ps)).all (vH n ps)
def qF{w' a}(hb:Bl w w')(h:w.cell? a=Q v):w'.cell? a=Q v:=
 (hb.cell (bL w _ h)).trans h
def qe(I:j<n)(h:p j=nF):(range n).all p=false:=by
 rw[all_eq_false];exact⟨j,by simpa using I,by rw[h];decide⟩
def qh(h:∀i,i<n->p i):(range n).all p:=by
 rw[aT];intro i hi;exact h i (by simpa using hi)
def ZN w v k(h:IS w v l)(hl:E l<=1099511627776):
 aF 107 #[v,ai k] w (oB (zy k l)) λw'=>w'=w:=by
 obtain⟨a,cap,rfl,V⟩:=h;have⟨res,I⟩:=Ex (zy k l);rw[<-I];rcases pV (E l) with M|hp
 .have O:res:=by rw[I];simp[zy,M]
  subst O;rw[M];clear V I;go_enter func107,ntmps107;go_wp2;go_ret;exact⟨rfl,rfl⟩
 rcases V with M|⟨b,o,rfl,K⟩;omega;have c1:=K (E l-1) Oo;have O:Hh (res=oD (U l (E l-1) 0<k)):=by
  show res=_;rw[I];unfold zy;rw[fC Oo,pF]
 have i4:((E l:Int)-1).toNat=E l-1:=Oo;have d1:¬((E l:Int)=0):=Oo;clear K I;generalize U l (E l-1) 0=y at *;generalize E l=n at *;go_enter func107,ntmps107;go_wp2;go_ret;exact⟨qJ (by rw[O.o,show((n:Int) == 0)=nF by simp;omega,pF]),rfl⟩
def VL w k(h:ISS w ve es)(hl:qS es):
 aG 78 #[ai k,ve] w (oB (xN k es)):=by
 have KE:=ay (QV w h hl);have HE:=ay h;obtain⟨a,cap,rfl,hc⟩:=h;have⟨b1,a5⟩:=hl;have HS:Hh (qS es):=⟨b1,a5⟩;have⟨res,M⟩:=Ex (xN k es);rw[<-M];change Hh _ at M hc a5;by_cases a6:k<0
 .have V:res=false:=by rw[M.o];unfold xN;rw[fC Oo];simp
  subst V;go_enter func78,ntmps78;go_wp2;go_ret;exact⟨rfl,eB⟩
 by_cases b7:6<k
 .have V:res=false:=by rw[M.o];unfold xN;rw[fC (by omega:¬k<=6)];simp
  subst V;have d1:=a6;go_enter func78,ntmps78;go_wp2;go_ret;exact⟨rfl,eB⟩
 have d1:=a6;have d2:=b7;cases hB:zf es
 .have V:res=false:=by rw[M.o];unfold xN;rw[hB];simp
  subst V;rw[hB]at KE;go_enter func78,ntmps78;go_wp2_with fail;apply KE.o.mn;intro w1 hw1;subst w1;go_wp2;go_ret;exact⟨rfl,eB⟩
 rw[hB]at KE;have a7:Hh (∀j,j<E es->zy k (U es j [])=nF->res=nF):=λj hj e=>by
  rw[M.o];unfold xN;rw[xY (zy k) [] es j hj e];simp
 have b8:Hh (∀v,v<k.toNat->zr es (v:Int)=nF->res=nF):=λv hv e=>by
  rw[M.o];unfold xN;rw[qe hv e];simp
 have HT:Hh ((∀j,j<E es->zy k (U es j []))->(∀v,v<k.toNat->zr es (v:Int))->res):=λh1 h2=>by
  rw[M.o];unfold xN;rw[hB,fD (by omega:0<=k),fD (by omega:k<=6),ug (zy k) [] es h1,qh h2];rfl
 clear M hB;have⟨n,hn⟩:=Ex (E es);rw[<-hn]at a7 HT b1 hc KE HE |-;change Hh _ at hn;go_enter func78,ntmps78;go_wp2_with fail;apply KE.o.mn;intro w1 hw1;subst w1;go_wp2;go_loop [21] (λt=>∃j:Nat,j<=n/\t=ai j/\Hh (∀i,i<j->zy k (U es i []))) (λt=>n-(intOf t).toNat);exact⟨0,eC,rfl,ay (λi hi=>Oo)⟩;obtain⟨j,hj,rfl,I⟩:=hrel;by_cases b9:j<n
 .have i1:=aV b9;rcases hc.o with h0|⟨b,o,rfl,O⟩;omega;have⟨u,c1,hu⟩:=O j b9;have HK:=ay (ZN w u k hu (a5 j));obtain⟨a1,d4,rfl,-⟩:=hu;have fin:=a7 j b9;have nxt:zy k (U es j [])->Hh (∀i,i<j+1->zy k (U es i [])):=λe i hi=>by
   by_cases e2:i=j;rw[e2];exact e;exact I i Oo
  clear O I;generalize E (U es j [])=m,zy k (U es j [])=y at *;cases y
  .obtain rfl:=fin rfl;clear nxt;go_wp2_with fail;apply HK.o.mn;intro w1 hw1;subst w1;go_wp2;go_ret;exact⟨rfl,eB⟩
  have V:=nxt rfl;clear fin nxt;go_wp2_with fail;apply HK.o.mn;intro w1 hw1;subst w1;go_wp2;go_round;exact⟨j+1,Oo,Gg,V⟩;exact Im
 obtain rfl:j=n:=Oo;have c7:=ay (HT I);have i1:=aY j;clear I HT a7;have⟨q,hq⟩:=Ex k.toNat;obtain rfl:k=(q:Int):=Oo;rw[<-hq]at c7 b8;clear hq a6 b7;have d5:q<=6:=Oo;go_wp2;go_loopw [31] (λt wr=>∃v:Nat,v<=q/\t=ai v/\Bl w wr/\Hh (∀i:Nat,i<v->zr es (i:Int))) (mZ q);exact⟨0,eC,rfl,eB,ay (λi hi=>Oo)⟩;obtain⟨v,hv,rfl,a3,I⟩:=hrel;by_cases c9:v<q
 .have i2:=aV c9;have HK:=ay (ye _ _ v (HE.o.zz a3) HS);have K:zr es (v:Int)=_:=qCl _ _;have fin:=b8 v c9;have nxt:zr es (v:Int)->Hh (∀i:Nat,i<v+1->zr es (i:Int)):=λe i hi=>by
   by_cases e2:i=v;rw[e2];exact e;exact I i Oo
  have hlen:=xq (λi=>oD ((v:Int)∈U es i [])) (E es);have d0:=HS.1;clear I;generalize plc (λi=>oD ((v:Int)∈U es i [])) (E es)=pl,zr es (v:Int)=y at *;have⟨m,hm⟩:=Ex (E pl);rw[<-hm]at K hlen HK;have d6:m<=1099511627776:=Oo;clear hlen d0 hm;cases y
  .obtain rfl:=fin rfl;have a8:m=0:=by simpa using K
   clear nxt K;subst a8;go_wp2_with fail;apply HK.o.mono;rintro e w' ⟨v,rfl,⟨d3,⟨rfl,a4⟩|⟨g,c8,cur,rfl,a4⟩⟩,a9⟩;all_goals go_wp2_with fail
   all_goals go_ret
   all_goals exact⟨rfl,bt a3 a9⟩
  have V:=nxt rfl;have a8:m≠0:=by simpa using K
  have d7:¬((m:Int)=0):=Oo;clear fin nxt K;go_wp2_with fail;apply HK.o.mono;rintro e w' ⟨u,rfl,⟨d3,⟨rfl,a4⟩|⟨g,c8,cur,rfl,a4⟩⟩,a9⟩;exact absurd a4 a8;go_wp2;go_roundw;exact⟨v+1,Oo,Gg,bt a3 a9,V⟩;exact Im
 obtain rfl:v=q:=Oo;obtain rfl:=c7 I;have i2:=aY v;clear I;go_wp2;go_ret;exact⟨rfl,a3⟩
def Jm k{bs}(h:ISS w ve bs)(hl:qS bs):
 aF 79 #[ai k,ve] w (oB (yf k bs)) λw'=>w'=w:=by
 obtain⟨a,cap,rfl,hc⟩:=h;have⟨a4,O⟩:=hl;have⟨res,I⟩:=Ex (yf k bs);rw[<-I];change Hh _ at I hc O;by_cases h12:12<E bs
 .have hf:res=false:=by rw[I.o];unfold yf;rw[fC Oo];rfl
  subst hf;have i1:(12:Int)<(E bs:Int):=Oo;go_enter func79,ntmps79;go_wp2;go_ret;exact⟨rfl,rfl⟩
 have HF:Hh (∀j,j<E bs->xU k (U bs j [])=nF->res=nF):=λj hj e=>by
  rw[I.o];unfold yf;rw[xY (xU k) [] bs j hj e];simp
 have HT:Hh ((∀j,j<E bs->xU k (U bs j []))->res):=λh1=>by
  rw[I.o];unfold yf;rw[fD Oo,ug (xU k) [] bs h1];rfl
 have d1:¬((12:Int)<(E bs:Int)):=Oo;have⟨n,hn⟩:=Ex (E bs);rw[<-hn]at HF HT a4 hc d1 |-;go_enter func79,ntmps79;go_wp2;go_loop [12] (λt=>∃j:Nat,j<=n/\t=ai j/\Hh (∀i,i<j->xU k (U bs i []))) (λt=>n-(intOf t).toNat);exact⟨0,eC,rfl,ay (λi hi=>Oo)⟩;obtain⟨j,hj,rfl,M⟩:=hrel;by_cases V:j<n
 .have i1:=aV V;rcases hc.o with h0|⟨b,o,rfl,K⟩;omega;have⟨u,c1,hu⟩:=K j V;have HK:=ay (ZN w u k hu (O j));have HV:=ay (zn w u hu (O j));obtain⟨a1,a5,rfl,-⟩:=hu;have fin:=HF j V;have nxt:xU k (U bs j [])->Hh (∀i,i<j+1->xU k (U bs i [])):=λe i hi=>by
   by_cases e2:i=j;rw[e2];exact e;exact M i Oo
  have hb:xU k (U bs j [])=(!oD (E (U bs j [])=0)&&qb (U bs j [])&&zy k (U bs j [])):=rfl;have a6:=O j;generalize xU k (U bs j [])=y,E (U bs j [])=m,zy k (U bs j [])=y1,qb (U bs j [])=y2 at *;by_cases a3:m=0
  .subst a3;obtain rfl:=fin (by rw[hb];rfl);go_wp2;go_ret;exact⟨rfl,rfl⟩
  have a7:¬((m:Int)=0):=Oo;rw[fC a3,rP,dG]at hb;cases y2
  .obtain rfl:=fin (by rw[hb];rfl);go_wp2_with fail;apply HV.o.mn;intro w1 hw1;subst w1;go_wp2;go_ret;exact⟨rfl,rfl⟩
  rw[dG]at hb;cases y1
  .obtain rfl:=fin hb;go_wp2_with fail;apply HV.o.mn;intro w1 hw1;subst w1;go_wp2_with fail;apply HK.o.mn;intro w1 hw1;subst w1;go_wp2;go_ret;exact⟨rfl,rfl⟩
  have hf:=nxt hb;go_wp2_with fail;apply HV.o.mn;intro w1 hw1;subst w1;go_wp2_with fail;apply HK.o.mn;intro w1 hw1;subst w1;go_wp2;go_round;exact⟨j+1,Oo,Gg,hf⟩;exact Im
 obtain rfl:j=n:=Oo;obtain rfl:=HT M;have i1:=aY j;go_wp2;go_ret;exact⟨rfl,rfl⟩
def YT{ps}q(h:IS w v ps)(hl:E ps<=1099511627776):
 aF 80 #[v,ai q] w (oB (xH ps q)) λw'=>w'=w:=by
 obtain⟨a,cap,rfl,hc⟩:=h;have⟨res,I⟩:=Ex (xH ps q);rw[<-I];change Hh _ at I hc;by_cases hq:(E ps:Int)=q
 case neg=>
  have V:res=false:=by rw[I.o];unfold xH;rw[fC hq];rfl
  subst V;have i1:((E ps:Int) != q):=by simpa using hq
  go_enter func80,ntmps80;go_wp2;go_ret;exact⟨rfl,rfl⟩
 subst hq;have HF:Hh (∀j,j<E ps->vH (E ps) ps j=nF->res=nF):=λj hj e=>by
  rw[I.o];unfold xH;rw[qe hj e];simp
 have HT:Hh ((∀j,j<E ps->vH (E ps) ps j)->res):=λh1=>by
  rw[I.o];unfold xH;rw[fD rfl,qh h1];rfl
 clear I;have d1:(((E ps:Int)) != (E ps:Int))=false:=Ss;have HP:Hh (∀j,vH (E ps) ps j=(oD (U ps j 0=-1)||(oD ((j:Int)<U ps j 0)&&oD (U ps j 0<(E ps:Int))))):=λj=>rfl;have⟨n,hn⟩:=Ex (E ps);rw[<-hn]at HF HT hl hc d1 HP |-;clear hn;go_enter func80,ntmps80;go_wp2;go_loop [13] (λt=>∃j:Nat,j<=n/\t=ai j/\Hh (∀i,i<j->vH n ps i)) (λt=>n-(intOf t).toNat);exact⟨0,eC,rfl,ay (λi hi=>Oo)⟩;obtain⟨j,hj,rfl,O⟩:=hrel;by_cases a3:j<n
 .have i1:=aV a3;rcases hc.o with h0|⟨b,o,rfl,K⟩;omega;have c1:=K j a3;have fin:=HF j a3;have nxt:vH n ps j->Hh (∀i,i<j+1->vH n ps i):=λe i hi=>by
   by_cases e2:i=j;rw[e2];exact e;exact O i Oo
  have M:=HP j;clear K O;generalize vH n ps j=y,U ps j 0=x at *;by_cases h1:x=-1
  .subst h1;have V:=nxt (by rw[M];rfl);clear fin nxt M;go_wp2;go_round;exact⟨j+1,Oo,Gg,V⟩;exact Im
  have e1:(x != -1):=by simpa using h1
  rw[fC h1,pF]at M;by_cases h2:x<=(j:Int)
  .obtain rfl:=fin (by rw[M,fC Oo];rfl);clear nxt M;go_wp2;go_ret;exact⟨rfl,rfl⟩
  rw[fD (by omega:(j:Int)<x),dG]at M;by_cases h3:(n:Int)<=x
  .obtain rfl:=fin (by rw[M,fC Oo]);clear nxt M;go_wp2;go_ret;exact⟨rfl,rfl⟩
  have V:=nxt (by rw[M,fD Oo]);clear fin nxt M;go_wp2;go_round;exact⟨j+1,Oo,Gg,V⟩;exact Im
 obtain rfl:j=n:=Oo;obtain rfl:=HT O;have i1:=aY j;clear O;go_wp2;go_ret;exact⟨rfl,rfl⟩
def cmpL:LI->LI->Int
 |[],[]=>0
 |[],_::_=>-1
 |_::_,[]=>1
 |x::a,y::b=>if x<y then -1 else if y<x then 1 else cmpL a b
def xW(h:j<E l):l.drop j=U l j 0::l.drop (j+1):=by
 rw[gD,gE h];exact drop_eq_getElem_cons h
def jF a b:∀j,j<=E a->j<=E b->(∀i,i<j->U a i 0=U b i 0)->cmpL a b=cmpL (a.drop j) (b.drop j):=by
 intro j;induction j with
 |zero=>intros;simp
 |succ j ih=>
  intro K M I;rw[ih Oo Oo (λi hi=>I i Oo),xW (show j<E a by omega),xW (show j<E b by omega),I j Oo];simp[cmpL]
def qCb(I:j<E a)(K:j<E b)(M:∀i,i<j->U a i 0=U b i 0)(O:U a j 0<U b j 0):cmpL a b=-1:=by
 rw[jF a b j Oo Oo M,xW I,xW K];simp only[cmpL];rw[fE O]
def Vm(I:j<E a)(K:j<E b)(M:∀i,i<j->U a i 0=U b i 0)(O:U b j 0<U a j 0):cmpL a b=1:=by
 rw[jF a b j Oo Oo M,xW I,xW K];simp only[cmpL];rw[fF Oo,fE O]
def Yi(I:E a<E b)(K:∀i,i<E a->U a i 0=U b i 0):cmpL a b=-1:=by
 rw[jF a b (E a) Oo Oo K,xW I,drop_length];rfl
def Uk(I:E b<E a)(K:∀i,i<E b->U a i 0=U b i 0):cmpL a b=1:=by
 rw[jF a b (E b) Oo Oo K,xW I,drop_length];rfl
def Ul(I:E a=E b)(K:∀i,i<E a->U a i 0=U b i 0):cmpL a b=0:=by
 rw[jF a b (E a) Oo Oo K,drop_length,I,drop_length];rfl
def qFZ(x y:Int):Int:=if x<y then -1 else if y<x then 1 else 0
def J8 w x y:
 aF 167 #[ai x,ai y] w (ai (qFZ x y)) λw'=>w'=w:=by
 have M:(x != x)=false:=Ss;have O:(y != y)=false:=Ss;unfold qFZ;by_cases I:x<y
 .rw[fE I];go_enter func167,ntmps167;go_wp2;go_ret;exact⟨rfl,rfl⟩
 rw[fF I];by_cases K:y<x
 .rw[fE K];go_enter func167,ntmps167;go_wp2;go_ret;exact⟨rfl,rfl⟩
 rw[fF K];go_enter func167,ntmps167;go_wp2;go_ret;exact⟨rfl,rfl⟩
def Yj{I:LI}(h:∀i,i<j->U I i 0=U lb i 0)(e:U I j 0=U lb j 0):∀i,i<j+1->U I i 0=U lb i 0:=λi hi=>by
 by_cases K:i=j;rw[K];exact e;exact h i Oo
def yy w{va vb}V(ha:IS w va V)(hb:IS w vb lb)(hl:E V<=1099511627776)(a7:E lb<=1099511627776):
 aF 134 #[va,vb] w (ai (cmpL V lb)) λw'=>w'=w:=by
 obtain⟨a,cap,rfl,hc⟩:=ha;obtain⟨a',a9,rfl,a5⟩:=hb;have⟨n,hn⟩:=Ex (E V);have⟨m,hm⟩:=Ex (E lb);have⟨res,a3⟩:=Ex (cmpL V lb);rw[<-a3];rw[<-hn]at hc hl |-;rw[<-hm]at a5 a7 |-;change Hh _ at a3 hc a5 hn hm;go_enter func134,ntmps134;go_wp2;go_loop [11] (λt=>∃j:Nat,j<=n/\j<=m/\t=ai j/\Hh (∀i,i<j->U V i 0=U lb i 0)) (λt=>n-(intOf t).toNat);exact⟨0,eC,eC,rfl,ay (λi hi=>Oo)⟩;obtain⟨j,hj,b1,rfl,I⟩:=hrel;by_cases a4:j<n
 .have i1:=aV a4;rcases hc.o with h0|⟨b,o,rfl,M⟩;omega;have c1:=M j a4;by_cases K:j<m
  .have i2:¬((m:Int)<=j):=Oo;rcases a5.o with h0|⟨b',o',rfl,O⟩;omega;have c2:=O j K;have HK:=ay (J8 w (U V j 0) (U lb j 0));have f1:U V j 0<U lb j 0->Hh (res=-1):=λe=>a3.o.trans (qCb (hn.o▸a4) (hm.o▸K) I e);have f2:U lb j 0<U V j 0->Hh (res=1):=λe=>a3.o.trans (Vm (hn.o▸a4) (hm.o▸K) I e);have f3:U V j 0=U lb j 0->Hh (∀i,i<j+1->U V i 0=U lb i 0):=Yj I;clear M O I;unfold qFZ at HK;generalize U V j 0=x,U lb j 0=y at *;by_cases h1:x<y
   .have hf:=f1 h1;rw[fE h1]at HK;clear f1 f2 f3;go_wp2_with (go_at_call 167;apply HK.o.mn;intro w' a6;subst w');go_ret;exact⟨qa hf.o.symm,rfl⟩
   by_cases h2:y<x
   .have hf:=f2 h2;rw[fF h1,fE h2]at HK;clear f1 f2 f3;go_wp2_with (go_at_call 167;apply HK.o.mn;intro w' a6;subst w');go_ret;exact⟨qa hf.o.symm,rfl⟩
   have hf:=f3 Oo;rw[fF h1,fF h2]at HK;clear f1 f2 f3;go_wp2_with (go_at_call 167;apply HK.o.mn;intro w' a6;subst w');go_round;exact⟨j+1,Oo,Oo,Gg,hf⟩;exact Im
  have i2:(m:Int)<=j:=Oo;obtain rfl:j=m:=Oo;have hf:Hh (res=1):=a3.o.trans (Uk (by rw[<-hn.o,<-hm.o];exact a4) (hm.o▸I));clear M I;go_wp2;go_ret;exact⟨qa hf.o.symm,rfl⟩
 obtain rfl:j=n:=Oo;have i1:=aY j;by_cases K:j<m
 .have i2:=aV K;have hf:Hh (res=-1):=a3.o.trans (Yi (by rw[<-hn.o,<-hm.o];exact K) (hn.o▸I));clear I;go_wp2;go_ret;exact⟨qa hf.o.symm,rfl⟩
 have i2:¬((j:Int)<m):=Oo;have hf:Hh (res=0):=a3.o.trans (Ul (by rw[<-hn.o,<-hm.o];omega) (hn.o▸I));clear I;go_wp2;go_ret;exact⟨qa hf.o.symm,rfl⟩
def zN w va vb{O}lb(ha:IS w va O)(hb:IS w vb lb)(hl:E O<=1099511627776)(a6:E lb<=1099511627776):
 aF 62 #[va,vb] w (ai (cmpL O lb)) λw'=>∃q,w'=w.drewN q:=by
 obtain⟨a,cap,rfl,hc⟩:=ha;obtain⟨a',a8,rfl,a5⟩:=hb;have⟨n,hn⟩:=Ex (E O);have⟨m,hm⟩:=Ex (E lb);have⟨res,V⟩:=Ex (cmpL O lb);rw[<-V];rw[<-hn]at hc hl |-;rw[<-hm]at a5 a6 |-;change Hh _ at V hc a5 hn hm;go_enter func62,ntmps62;go_wp2;go_loopw [5] (λt wr=>∃j:Nat,j<=n/\j<=m/\t=ai j/\Hh (∃q,wr=w.drewN q)/\Hh (∀i,i<j->U O i 0=U lb i 0)) (mZ n);exact⟨0,eC,eC,rfl,ay ⟨0,rfl⟩,ay (λi hi=>Oo)⟩;obtain⟨j,hj,a9,rfl,hB,I⟩:=hrel;by_cases a4:j<n
 .have i1:=aV a4;by_cases K:j<m
  .have i2:=aV K;rcases hc.o with h0|⟨b,o,rfl,a3⟩;omega;have c1:aC wr b (o+j) (ai (U O j 0)):=by obtain⟨m,rfl⟩:=hB.o;exact a3 j a4
   rcases a5.o with h0|⟨b',o',rfl,M⟩;omega;have c2:aC wr b' (o'+j) (ai (U lb j 0)):=by obtain⟨m,rfl⟩:=hB.o;exact M j K
   have f1:U O j 0<U lb j 0->Hh (res=-1):=λe=>V.o.trans (qCb (hn.o▸a4) (hm.o▸K) I e);have f2:U lb j 0<U O j 0->Hh (res=1):=λe=>V.o.trans (Vm (hn.o▸a4) (hm.o▸K) I e);have f3:U O j 0=U lb j 0->Hh (∀i,i<j+1->U O i 0=U lb i 0):=Yj I;clear a3 M I;generalize U O j 0=x,U lb j 0=y at *;by_cases h1:x<y
   .have hf:=f1 h1;clear f1 f2 f3;go_wp2_with fail;go_quiet (fail)
    go_wp2;go_ret;exact⟨qa hf.o.symm,zh hB⟩
   by_cases h2:y<x
   .have hf:=f2 h2;clear f1 f2 f3;go_wp2_with fail;go_quiet (fail)
    go_wp2_with fail;go_quiet (fail)
    go_wp2;go_ret;exact⟨qa hf.o.symm,zh (zh hB)⟩
   have hf:=f3 Oo;clear f1 f2 f3;go_wp2_with fail;go_quiet (fail)
   go_wp2_with fail;go_quiet (fail)
   go_wp2;go_roundw;exact⟨j+1,Oo,Oo,Gg,ay (zh hB),hf⟩;exact Im
  obtain rfl:j=m:=Oo;have i2:=aY j;have i3:¬((n:Int)=j):=Oo;have i4:¬((n:Int)<j):=Oo;have hf:Hh (res=1):=V.o.trans (Uk (by rw[<-hn.o,<-hm.o];exact a4) (hm.o▸I));clear I;go_wp2;go_ret;exact⟨qa hf.o.symm,hB⟩
 obtain rfl:j=n:=Oo;have i1:=aY j;by_cases K:j<m
 .have i2:=aV K;have i3:¬((j:Int)=m):=Oo;have hf:Hh (res=-1):=V.o.trans (Yi (by rw[<-hn.o,<-hm.o];exact K) (hn.o▸I));clear I;go_wp2;go_ret;exact⟨qa hf.o.symm,hB⟩
 obtain rfl:j=m:=Oo;have hf:Hh (res=0):=V.o.trans (Ul (by rw[<-hn.o,<-hm.o]) (hn.o▸I));clear I;go_wp2;go_ret;exact⟨qa hf.o.symm,hB⟩
end
variable {q:Int}{l:LI}{ls:LL}{xs:LV}{B G K M b c g g0 g1 g2 j n o s cap:Nat}{f:NN}{e ty:TypeId}{u u0 u1 v v0 v1 v2 z0 z1 z2 u2:oV}{I W W' a w w' wr w1:oX}{α:Type}
def rowAt(rows:LL)(q:Int)(j:Nat):Bool:=oD ((E (U rows j []):Int)=q)&&(oD (j=0)||oD (cmpL (U rows (j-1) []) (U rows j [])<0))
def yM(rows:LL)(q:Int):Bool:=(range (E rows)).all (rowAt rows q)
def jh{rows}(h:∀i,i<E rows->rowAt rows q i):yM rows q:=by
 unfold yM;rw[aT];intro i hi;exact h i (by simpa using hi)
def Xg{rows}(I:j<E rows)(h:rowAt rows q j=nF):yM rows q=false:=by
 unfold yM;rw[all_eq_false];exact⟨j,by simpa using I,by rw[h];decide⟩
def Xh rows q j:
 ((E (U rows j []):Int)≠q/\rowAt rows q j=nF)\/((E (U rows j []):Int)=q/\j=0/\rowAt rows q j)\/
 ((E (U rows j []):Int)=q/\0<j/\0<=cmpL (U rows (j-1) []) (U rows j [])/\rowAt rows q j=nF)\/((E (U rows j []):Int)=q/\0<j/\cmpL (U rows (j-1) []) (U rows j [])<0/\rowAt rows q j):=by
 unfold rowAt;generalize (E (U rows j []):Int)=x;generalize cmpL (U rows (j-1) []) (U rows j [])=y;by_cases I:x=q
 .right;by_cases K:j=0;left;refine⟨I,K,?_⟩;simp[K,I];right;by_cases M:y<0;right;refine⟨I,Oo,M,?_⟩;simp[I];omega;left;refine⟨I,Oo,Oo,?_⟩;simp[I];omega
 left;exact⟨I,by simp[I]⟩
def ZS{vr rows}q(h:ISS w vr rows)(hl:qS rows):
 aF 154 #[vr,ai q] w (oB (yM rows q)) λw'=>w'=w:=by
 obtain⟨a,cap,rfl,hc⟩:=h;obtain⟨a7,a3⟩:=hl;obtain⟨n,hn⟩:=Ex (E rows);obtain⟨res,K⟩:=Ex (yM rows q);rw[<-K];rw[<-hn]at hc a7 |-;change Hh _ at K hc hn a3;go_enter func154,ntmps154;go_wp2;go_loop [9] (λt=>∃j:Nat,j<=n/\t=ai j/\Hh (∀i,i<j->rowAt rows q i)) (λt=>n-(intOf t).toNat);exact⟨0,nZ _,rfl,ay (λi hi=>Oo)⟩;obtain⟨j,hj,rfl,O⟩:=hrel;by_cases a4:j<n
 .have i1:=aV a4;rcases hc.o with h0|⟨b,o,rfl,I⟩;omega;obtain⟨u,c1,hu⟩:=I j a4;have a8:=Xh rows q j;have fin:rowAt rows q j=nF->Hh (res=nF):=λe=>K.o.trans (Xg (hn.o▸a4) e);have nxt:rowAt rows q j->Hh (∀i,i<j+1->rowAt rows q i):=λe i hi=>by
   by_cases e2:i=j;rw[e2];exact e;exact O i Oo
  have hp:0<j->∃u',aC w b (o+(j-1)) u'/\IS w u' (U rows (j-1) []):=λe=>I _ Oo;have HU:=ay hu;have hm:=a3 j;obtain⟨a1,a5,rfl,-⟩:=hu;rcases a8 with ⟨h1,h2⟩|⟨h1,h2,h3⟩|⟨h1,h2,h3,h4⟩|⟨h1,h2,h3,h4⟩
  .have V:=fin h2;generalize E (U rows j [])=m at *;go_wp2;go_ret;exact⟨qJ (by rw[V.o]),rfl⟩
  .have V:=nxt h3;subst h2;have b1:aC w b o (Z a1 (E (U rows 0 [])) a5):=by simpa using c1
   generalize E (U rows 0 [])=m at *;subst h1;go_wp2;go_round;exact⟨0+1,Oo,Gg,V⟩;exact Im
  .have V:=fin h4;obtain⟨u',c2,M⟩:=hp h2;have HK:=ay (yy w _ M HU (a3 (j-1)) hm);obtain⟨a2,a6,rfl,-⟩:=M;have i3:(0:Int)<j:=Oo;have i4:((j:Int)-1).toNat=j-1:=Oo;generalize cmpL (U rows (j-1) []) (U rows j [])=y,E (U rows j [])=m,E (U rows (j-1) [])=m' at *;subst h1;go_wp2_with (go_at_call 134;apply HK.o.mn;intro w' a9;subst w');go_ret;exact⟨qJ (by rw[V.o]),rfl⟩
  have V:=nxt h4;obtain⟨u',c2,M⟩:=hp h2;have HK:=ay (yy w _ M HU (a3 (j-1)) hm);obtain⟨a2,a6,rfl,-⟩:=M;have i3:(0:Int)<j:=Oo;have i4:((j:Int)-1).toNat=j-1:=Oo;generalize cmpL (U rows (j-1) []) (U rows j [])=y,E (U rows j [])=m,E (U rows (j-1) [])=m' at *;subst h1;have i5:¬(0<=y):=Oo;go_wp2_with (go_at_call 134;apply HK.o.mn;intro w' a9;subst w');go_round;exact⟨j+1,Oo,Gg,V⟩;exact Im
 obtain rfl:j=n:=Oo;have V:Hh (res):=K.o.trans (jh (λi hi=>O i (hn.o▸hi)));have i1:=aY j;go_wp2;go_ret;exact⟨qJ (by rw[V.o]),rfl⟩
def ZV{vr rows}q(h:ISS w vr rows)(hl:qS rows):
 aF 56 #[vr,ai q] w (oB (yM rows q)) λw'=>∃q,w'=w.drewN q:=by
 obtain⟨a,cap,rfl,hc⟩:=h;obtain⟨a7,a3⟩:=hl;obtain⟨n,hn⟩:=Ex (E rows);obtain⟨res,K⟩:=Ex (yM rows q);rw[<-K];rw[<-hn]at hc a7 |-;change Hh _ at K hc hn a3;go_enter func56,ntmps56;go_wp2;go_loopw [9] (λt wr=>∃j:Nat,j<=n/\t=ai j/\Hh (∃k,wr=w.drewN k)/\Hh (∀i,i<j->rowAt rows q i)) (mZ n);exact⟨0,nZ _,rfl,ay ⟨0,rfl⟩,ay (λi hi=>Oo)⟩;obtain⟨j,hj,rfl,hB,O⟩:=hrel;by_cases a4:j<n
 .have i1:=aV a4;rcases hc.o with h0|⟨b,o,rfl,I⟩;omega;obtain⟨u,c1,hu⟩:∃u,aC wr b (o+j) u/\IS wr u (U rows j []):=by obtain⟨k,rfl⟩:=hB.o;exact I j a4
  have a8:=Xh rows q j;have fin:rowAt rows q j=nF->Hh (res=nF):=λe=>K.o.trans (Xg (hn.o▸a4) e);have nxt:rowAt rows q j->Hh (∀i,i<j+1->rowAt rows q i):=λe i hi=>by
   by_cases e2:i=j;rw[e2];exact e;exact O i Oo
  have hp:0<j->∃u',aC wr b (o+(j-1)) u'/\IS wr u' (U rows (j-1) []):=λe=>by obtain⟨k,rfl⟩:=hB.o;exact I _ Oo
  have HU:=ay hu;have hm:=a3 j;obtain⟨a1,a5,rfl,-⟩:=hu;rcases a8 with ⟨h1,h2⟩|⟨h1,h2,h3⟩|⟨h1,h2,h3,h4⟩|⟨h1,h2,h3,h4⟩
  .have V:=fin h2;generalize E (U rows j [])=m at *;go_wp2;go_ret;exact⟨qJ (by rw[V.o]),hB⟩
  .have V:=nxt h3;subst h2;have b1:aC wr b o (Z a1 (E (U rows 0 [])) a5):=by simpa using c1
   generalize E (U rows 0 [])=m at *;subst h1;go_wp2;go_roundw;exact⟨0+1,Oo,Gg,hB,V⟩;exact Im
  .have V:=fin h4;obtain⟨u',c2,M⟩:=hp h2;have HK:=ay (zN _ _ _ _ M HU (a3 (j-1)) hm);obtain⟨a2,a6,rfl,-⟩:=M;have i3:(0:Int)<j:=Oo;have i4:((j:Int)-1).toNat=j-1:=Oo;generalize cmpL (U rows (j-1) []) (U rows j [])=y,E (U rows j [])=m,E (U rows (j-1) [])=m' at *;subst h1;go_wp2_with (go_at_call 62;apply HK.o.mn;rintro w' ⟨q',a9⟩;subst w');go_ret;exact⟨qJ (by rw[V.o]),zh hB⟩
  have V:=nxt h4;obtain⟨u',c2,M⟩:=hp h2;have HK:=ay (zN _ _ _ _ M HU (a3 (j-1)) hm);obtain⟨a2,a6,rfl,-⟩:=M;have i3:(0:Int)<j:=Oo;have i4:((j:Int)-1).toNat=j-1:=Oo;generalize cmpL (U rows (j-1) []) (U rows j [])=y,E (U rows j [])=m,E (U rows (j-1) [])=m' at *;subst h1;have i5:¬(0<=y):=Oo;go_wp2_with (go_at_call 62;apply HK.o.mn;rintro w' ⟨q',a9⟩;subst w');go_roundw;exact⟨j+1,Oo,Gg,ay (zh hB),V⟩;exact Im
 obtain rfl:j=n:=Oo;have V:Hh (res):=K.o.trans (jh (λi hi=>O i (hn.o▸hi)));have i1:=aY j;go_wp2;go_ret;exact⟨qJ (by rw[V.o]),hB⟩
def ql(vs:LI)(rows:LL)(ws:LI):Bool:=qb vs&&oD (E rows<=10000)&&yM rows (E vs)&&oD (E ws=E rows)
structure OwnT(w:oX)(B:Nat)(g0 g1 g2:Nat)(vs:LI)(rows:LL)(ws:LI)(f:NN):Prop where
 vr:OwnI w g0 vs
 rw:Half w g1 (E rows) (E rows) rows f
 wt:OwnI w g2 ws
 lt0:B<=g0
 lt1:g0<g1
 lt2:∀i,i<E rows->f i<g2
 lt3:g1<g2
def Half.A(h:Half w G n j ls f)(hb:w'.1[G]?=w.1[G]?)(I:∀i,i<j->w'.1[f i]?=w.1[f i]?)(hs:J w.1<=J w'.1):Half w' G n j ls f:=
 ⟨λi hi=>(bF hb).trans (h.cell i hi),λi hi=>(dA hb).trans (h.L i hi),λi hi=>(h.z i hi).A (I i hi) hs,h.gt,h.up⟩
def Half.zz(h:Half w G n j ls f)(I:G<J w.1)(hb:Bl w w'):Half w' G n j ls f:=
 h.A (hb.block G I) (λi hi=>hb.block _ (h.z i hi).lt) hb.size
def Half.iss(h:Half w G n n ls f)(K:n=E ls):ISS w (sZ G 0 (E ls) (E ls)) ls:=by
 subst K;refine⟨_,_,rfl,.inr ⟨G,0,rfl,λj I=>⟨_,by rw[cU];exact h.cell j I,?_⟩⟩⟩;rw[fE I];exact(h.z j I).is
def OwnI.set(h:OwnI w g l)(I:g≠c):OwnI (sW w (az c o) v) g l:=
 h.A (eG I) (by simp[World.setCell])
def Half.set(h:Half w G n j ls f)(I:c<G):Half (sW w (az c o) v) G n j ls f:=
 h.A (eG (by show G≠c;omega)) (λi hi=>eG (by have:=h.gt i hi;show f i≠c;omega)) (by simp[World.setCell])
def OwnT.set{vs ws rows}(h:OwnT w B g0 g1 g2 vs rows ws f)(I:c<g0):OwnT (sW w (az c o) v) B g0 g1 g2 vs rows ws f:=
 ⟨h.vr.set Oo,h.rw.set (Nat.lt_trans I h.lt1),h.wt.set (by have:=h.lt1;have:=h.lt3;omega),h.lt0,h.lt1,h.lt2,h.lt3⟩
def OwnT.zz{vs ws rows}(h:OwnT w B g0 g1 g2 vs rows ws f)(hb:Bl w w'):OwnT w' B g0 g1 g2 vs rows ws f:=
 ⟨h.vr.zz hb,h.rw.zz (Nat.lt_trans h.lt3 h.wt.lt) hb,h.wt.zz hb,h.lt0,h.lt1,h.lt2,h.lt3⟩
structure IT(w:oX)(v0 v1 v2:oV)(vs:LI)(rows:LL)(ws:LI):Prop where
 e:IS w v0 vs
 x:ISS w v1 rows
 k:IS w v2 ws
def IT.zz{vs ws rows}(h:IT w v0 v1 v2 vs rows ws)(hb:Bl w w'):IT w' v0 v1 v2 vs rows ws:=
 ⟨h.e.zz hb,h.x.zz hb,h.k.zz hb⟩
def OwnT.it{vs ws rows}(h:OwnT w B g0 g1 g2 vs rows ws f):
 IT w (sZ g0 0 (E vs) (E vs)) (sZ g1 0 (E rows) (E rows)) (sZ g2 0 (E ws) (E ws)) vs rows ws:=
 ⟨h.vr.is,h.rw.iss rfl,h.wt.is⟩
structure TB(w:oX)(s:Nat)(v0 v1 v2 z0 z1 z2 o0 o1 o2:oV)(W:oX):Prop where
 a0:eQ W (az s 0)=Q v0
 a1:eQ W (az s 1)=Q v1
 a2:eQ W (az s 2)=Q v2
 r0:eQ W (az (s+1) 0)=Q z0
 r1:eQ W (az (s+1) 1)=Q z1
 r2:eQ W (az (s+1) 2)=Q z2
 o0:eQ W (az (s+1+1) 0)=Q o0
 o1:eQ W (az (s+1+1) 1)=Q o1
 o2:eQ W (az (s+1+1) 2)=Q o2
 fr0:W.frozen? (az (s+1) 0)=nF
 fr1:W.frozen? (az (s+1) 1)=nF
 fr2:W.frozen? (az (s+1) 2)=nF
 fo0:W.frozen? (az (s+1+1) 0)=nF
 fo1:W.frozen? (az (s+1+1) 1)=nF
 fo2:W.frozen? (az (s+1+1) 2)=nF
 sz:s+3<=J W.1
 zz:Below s w W
def TB.P{o0 o1 o2}(h:TB w s v0 v1 v2 z0 z1 z2 o0 o1 o2 W)(hb:Bl W W'):TB w s v0 v1 v2 z0 z1 z2 o0 o1 o2 W' :=by
 have z:=h.sz;have b:=h.zz.trans (hb.mono (O1 z));cases h;constructor;any_goals first|exact(hb.cell (by simp;omega)).trans ‹_›|exact(hb.frozen (by simp;omega)).trans ‹_›
 exact bM z hb.size;exact b
def TB.set0{o0 o1 o2}(h:TB w s v0 v1 v2 z0 z1 z2 o0 o1 o2 W)u:TB w s v0 v1 v2 z0 z1 z2 u o1 o2 (sW W (az (s+1+1) 0) u) :=by
 have a:=h;cases h;exact⟨Wz,Wz,Wz,Wz,Wz,Wz,Wz,Wz,Wz,Wz,Wz,Wz,Wz,Wz,Wz,by have:=a.sz;simpa[World.setCell]using this,a.zz.setCell (by show s<=s+1+1;omega) _⟩
def TB.set1{o0 o1 o2}(h:TB w s v0 v1 v2 z0 z1 z2 o0 o1 o2 W)u:TB w s v0 v1 v2 z0 z1 z2 o0 u o2 (sW W (az (s+1+1) 1) u) :=by
 have a:=h;cases h;exact⟨Wz,Wz,Wz,Wz,Wz,Wz,Wz,Wz,Wz,Wz,Wz,Wz,Wz,Wz,Wz,by have:=a.sz;simpa[World.setCell]using this,a.zz.setCell (by show s<=s+1+1;omega) _⟩
def TB.zv w t t' I v0 v1 v2 z0 z1 z2 o0 o1 o2:TB w (J w.1) v0 v1 v2 z0 z1 z2 o0 o1 o2 (S (S (S w (eZ #[v0,v1,v2] t)) (eZ #[z0,z1,z2] t')) (eZ #[o0,o1,o2] I)) where
 a0:=Sg
 a1:=Sg
 a2:=Sg
 r0:=Sg
 r1:=Sg
 r2:=Sg
 o0:=Sg
 o1:=Sg
 o2:=Sg
 fr0:=Sg
 fr1:=Sg
 fr2:=Sg
 fo0:=Sg
 fo1:=Sg
 fo2:=Sg
 sz:=Ss
 zz:=((aK).alloc Ss _).alloc Sy _
def Jy{vs rows ws}(h:IT w v0 v1 v2 vs rows ws)(hv:E vs<=1099511627776)(hr:qS rows)(hw:E ws<=1099511627776):
 Cl 29 #[aQ #[v0,v1,v2]] w λe w'=>∃g0 g1 g2 f,e=rE (aQ #[sZ g0 0 (E vs) (E vs),sZ g1 0 (E rows) (E rows),sZ g2 0 (E ws) (E ws)])/\OwnT w' (J w.1) g0 g1 g2 vs rows ws f/\Bl w w':=by
 have H0:=ay h.e;have H1:=ay h.x;have H2:=ay h.k;change Hh _ at hr;obtain⟨a0,k0,rfl,-⟩:=h.e;obtain⟨a1,k1,rfl,-⟩:=h.x;obtain⟨a2,k2,rfl,-⟩:=h.k;have a7:=ay (TB.zv w 53 58 58 (Z a0 (E vs) k0) (Z a1 (E rows) k1) (Z a2 (E ws) k2) sn sn sn sn sn sn);go_enter func29,ntmps29;go_wp2_with fail;apply (yH _ _ (H0.o.zz a7.o.zz) hv).mn;rintro w2 ⟨a8,a9⟩;have K:=ay (a7.o.P a9);have y1:=K.o.a1;have y2:=K.o.o0;have y3:=K.o.fo0;have a3:=ay (by simpa using a8);go_wp2_with fail;have b1:=ay (K.o.set0 (sZ (J w.1+1+1+1) 0 (E vs) (E vs)));apply (ZL (H1.o.zz b1.o.zz) hr.o).mn;rintro w3 ⟨⟨f,b7⟩,V,a4⟩;have M:=ay (b1.o.P a4);have x1:=M.o.a2;have x2:=M.o.o1;have x3:=M.o.fo1;have b8:=ay ((a3.o.set Oo).zz a4);have hg1:J w.1+1+1+1<J (sC w2 (J w.1+1+1) 0 (sZ (J w.1+1+1+1) 0 (E vs) (E vs))).1:=by
  have:=a3.o.lt;simpa[World.setCell]using this
 generalize J (sC w2 (J w.1+1+1) 0 (sZ (J w.1+1+1+1) 0 (E vs) (E vs))).1=g1 at *;change Hh _ at b7 V;go_wp2_with fail;have b9:=ay (M.o.set1 (sZ g1 0 (E rows) (E rows)));apply (yH _ _ (H2.o.zz b9.o.zz) hw).mn;rintro w4 ⟨c7,O⟩;have I:=ay (b9.o.P O);have z1:=I.o.o0;have z2:=I.o.o1;have z3:=I.o.o2;have z4:=I.o.fo2;have z5:=I.o.r0;have z6:=I.o.r1;have z7:=I.o.r2;have z8:=I.o.fr0;have z9:=I.o.fr1;have c8:=I.o.fr2;have hsz:J (sC w3 (J w.1+1+1) 1 (sZ g1 0 (E rows) (E rows))).1=J w3.1:=by simp[World.setCell]
 have HF:Hh (OwnT w4 (J w.1) (J w.1+1+1+1) g1 (J (sC w3 (J w.1+1+1) 1 (sZ g1 0 (E rows) (E rows))).1) vs rows ws f):=ay
  ⟨(b8.o.set Oo).zz O,(b7.o.set Oo).zz (hsz▸V) O,c7,Oo,hg1,λi hi=>by rw[hsz];exact(b7.o.z i hi).lt,hsz▸V⟩
 generalize J (sC w3 (J w.1+1+1) 1 (sZ g1 0 (E rows) (E rows))).1=g2 at *;go_wp2;refine aU (by simp[results,results29,go_sem,z5,z6,z7]) rfl
  ⟨_,_,_,f,rfl,(((HF.o.set Oo).set Oo).set Oo).set Oo,(((I.o.zz.setCell (by show J w.1<=J w.1+1+1;omega) _).setCell (by show J w.1<=J w.1+1;omega) _).setCell (by show J w.1<=J w.1+1;omega) _).setCell (by show J w.1<=J w.1+1;omega) _⟩
def szT(vs:LI)(rows:LL)(ws:LI)(left:Int):Int:=if left<E vs+tot rows (E rows)+E ws then -1 else left-(E vs+tot rows (E rows)+E ws)
def Jz{vs rows ws}left(h:IT w v0 v1 v2 vs rows ws)(hv:E vs<=9223372036854775807)(hr:Fits rows)(hw:E ws<=9223372036854775807)(h1:0<=left)(h2:left<=1048576):
 aG 21 #[aQ #[v0,v1,v2],ai left] w (ai (szT vs rows ws left)):=by
 have H1:=ay h.x;change Hh _ at hr;obtain⟨a0,k0,rfl,-⟩:=h.e;obtain⟨a1,k1,rfl,-⟩:=h.x;obtain⟨a2,k2,rfl,-⟩:=h.k;have⟨res,I⟩:=Ex (szT vs rows ws left);rw[<-I];unfold szT at I;have HB:Hh (Bl w (aJ w #[Z a0 (E vs) k0,Z a1 (E rows) k1,Z a2 (E ws) k2] 53)):=aK;have O:=ay (ym (aJ w #[Z a0 (E vs) k0,Z a1 (E rows) k1,Z a2 (E ws) k2] 53) a0 _ k0 _ h1 h2 hv);by_cases c0:left<E vs
 .rw[fE c0]at O;rw[fE Oo]at I;have M:=ay I;go_enter func21,ntmps21;go_wp2_with (go_at_call 23;apply O.o.mn;intro w' K;subst w');go_ret;exact⟨qa M.o.symm,HB⟩
 rw[fF c0]at O;have V:=ay (ZK _ (left-E vs) (H1.o.zz HB) hr Oo Oo);have n0:¬(left-(E vs:Int)<0):=Oo;unfold qAZ at V;by_cases c1:left-E vs<tot rows (E rows)
 .rw[fE c1]at V;rw[fE Oo]at I;have M:=ay I;go_enter func21,ntmps21;go_wp2_with (first|go_at_call 23;apply O.o.mn;intro w' K;subst w'|go_at_call 22;apply V.o.mn;intro w' K;subst w');go_ret;exact⟨qa M.o.symm,HB⟩
 rw[fF c1]at V;have n1:¬(left-(E vs:Int)-(tot rows (E rows):Int)<0):=Oo;have K2:=ay (ym (aJ w #[Z a0 (E vs) k0,Z a1 (E rows) k1,Z a2 (E ws) k2] 53) a2 _ k2 (left-E vs-tot rows (E rows)) Oo Oo hw);by_cases c2:left-E vs-tot rows (E rows)<E ws
 .rw[fE c2]at K2;rw[fE Oo]at I;have M:=ay I;go_enter func21,ntmps21;go_wp2_with fail;apply O.o.mn;intro w' K;subst w';go_wp2_with fail;apply V.o.mn;intro w' K;subst w';go_wp2_with fail;apply K2.o.mn;intro w' K;subst w';go_wp2;go_ret;exact⟨qa M.o.symm,HB⟩
 rw[fF c2]at K2;rw[fF Oo]at I;have M:=ay (show res=left-E vs-tot rows (E rows)-E ws by omega);have n2:¬(left-(E vs:Int)-(tot rows (E rows):Int)-(E ws:Int)<0):=Oo;go_enter func21,ntmps21;go_wp2_with fail;apply O.o.mn;intro w' K;subst w';go_wp2_with fail;apply V.o.mn;intro w' K;subst w';go_wp2_with fail;apply K2.o.mn;intro w' K;subst w';go_wp2;go_ret;exact⟨qa M.o.symm,HB⟩
def Tryz.infoRatS:(Tryz.prog.info? 37).map (λi=>(i.zero,i.size,i.bytes))=Q (Q (aQ #[ai 0,ai 0]),2,16):=Kl
def zs(k:Nat):LV:=(replicate k [ai 0,ai 1]).flatten
def qDF k:zs (k+1)=zs k++[ai 0,ai 1]:=by
 simp[zs,replicate_succ',flatten_append]
def zW{o}(hB:B<=J wr.1)
 (K:oW wr B e s u n xs) (M:Below B w wr) (I:(S wr o).grownBy w1 u.ownBlock):Below B w w1:=
 (M.alloc hB o).grown I Sy (λj O=>(K.lt j O).1)
def J1 w(n:Nat)(hn:n<=1000):
 Cl 171 #[ai n] w λe w'=>∃v,e=rE v/\oW w' (J w.1) 37 2 v n (zs n)/\Bl w w':=by
 have⟨i0,hi,a4,a5,a6⟩:=aX Tryz.infoRatS;go_enter func171,ntmps171;go_wp2;go_loopw [3,4] (λv t wr=>∃k:Nat,k<=n/\t=ai k/\oW wr (J w.1) 37 2 v k (zs k)/\Bl w wr) (λ_ t _=>n-(intOf t).toNat);exact⟨0,eC,rfl,oM w _ 0 eA Dd rfl,aK⟩;obtain⟨k,hk,rfl,I,O⟩:=hrel;have a7:=O.size;by_cases a8:k<n
 .have i1:=aV a8;go_wp2_with (first
   |(at_builtin;refine eP _ rfl _ _ 36 rfl _ 37 _ _ 2 _ underlying36 hi a4 a5 a6 rfl Dd _ _ _ rfl (I.alloc _) (az _ 0) 1 1 [ai 0,ai 1] rfl rfl ?c1 ?c2 ?c3 ?c4 ?c5 ?_))
  case c1=>
   intro j u V;match j,V with
   |0,V=>simp at V;subst V;simp[Addr.add]
   |1,V=>simp at V;subst V;simp[Addr.add]
  case c2=>intro u hu;simp at hu;rcases hu with rfl|rfl <;> rfl
  case c3=>unfold maxLen;omega
  case c4=>omega
  case c5=>simp;omega
  intro v' w1 K M _;have hb:=zW a7 I O M;have a3:oW w1 (J w.1) 37 2 v' (k+1) (zs (k+1)):=by
   rw[qDF];exact K
  go_wp2;go_roundw;exact⟨k+1,Oo,Gg,a3,hb⟩;exact Im
 obtain rfl:k=n:=Oo;have i1:=aY k;go_wp2;go_ret;exact⟨_,rfl,I,O⟩
def IR(w:oX)(v:oV)(l:LP):Prop:=∃a cap,v=Z a (E l) cap/\(E l=0\/∃b o,a=Q (az b o)/\∀j,j<E l->
 eQ w (az b (o+j*2))=Q (ai (U l j (0,0)).1)/\eQ w (az b (o+j*2+1))=Q (ai (U l j (0,0)).2))
def rcs(l:LP):LV:=l.flatMap λp=>[ai p.1,ai p.2]
def qGW(l:LP)k(h:k<E l):rcs (l.take (k+1))=rcs (l.take k)++[ai (U l k (0,0)).1,ai (U l k (0,0)).2]:=by
 unfold rcs;rw[tA,gE h,gD,gE h];simp only[iK,dM,dS,flatMap_nil,dU,dI]
def qB(h:oW w B e s v n xs)(hb:Bl w w'):oW w' B e s v n xs:=by
 have⟨O,I⟩:=h;refine⟨O,?_⟩;rcases I with I|⟨g,cap,cur,hv,V,K,hr⟩;exact .inl I;refine .inr ⟨g,cap,cur,hv,V,?_,hr⟩;rw[hb.block g (by
  rcases dL g (J w.1) with M|M;exact M;rw[dO M]at K;cases K)]
 exact K
def qBF w v{l}(h:IR w v l)(hl:E l<=1000)
 (hp:∀j,j<E l->(-1000000<=(U l j (0,0)).1/\(U l j (0,0)).1<=1000000)/\(-1000000<=(U l j (0,0)).2/\(U l j (0,0)).2<=1000000)):
 Cl 148 #[v] w λe w'=>∃v,e=rE v/\oW w' (J w.1) 37 2 v (E l) (rcs l)/\Bl w w':=by
 have⟨i0,hi,b7,b8,b9⟩:=aX Tryz.infoRatS;obtain⟨a,cap,rfl,hc⟩:=h;have⟨n,hn⟩:=Ex (E l);have⟨out,V⟩:=Ex (rcs l);rw[<-V];rw[<-hn]at hc hl hp |-;change Hh _ at hc hp hn V;go_enter func148,ntmps148;go_wp2_with (at_make;refine nJ _ rfl _ _ 36 rfl _ 37 _ _ 2 underlying36 hi b7 b8 _ _ _ n rfl rfl rfl ?b2 ?b3 eA ?_)
 case b2=>rw[b9];omega
 case b3=>unfold maxLen;omega
 intro w0 a3 K;have c7:=eB.grown K eA (λj hj=>by cases hj);go_wp2;go_loopw [3,11] (λv t wr=>∃k:Nat,k<=n/\t=ai k/\oW wr (J w.1) 37 2 v k (rcs (l.take k))/\Bl w wr) (λ_ t _=>n-(intOf t).toNat);exact⟨0,eC,rfl,a3,c7⟩;obtain⟨k,hk,rfl,M,O⟩:=hrel;by_cases a8:k<n
 .have i1:=aV a8;rcases hc.o with h0|⟨b,o,rfl,a4⟩;omega;have⟨d1,d2⟩:=a4 k a8;have c1:=(O.cell (bL w _ d1)).trans d1;have c2:=(O.cell (bL w _ d2)).trans d2;have⟨⟨p1,p2⟩,p3,p4⟩:=hp k a8;have HS:=ay (qGW l k (hn.o▸a8));generalize (U l k (0,0)).1=x at *;generalize (U l k (0,0)).2=y at *;go_wp2_with fail;have c8:Bl w (S wr (eZ #[ai x,ai y] 212)):=O.alloc O.size _;have a5:=M.alloc (eZ #[ai x,ai y] 212);generalize S wr (eZ #[ai x,ai y] 212)=wa at *;apply (JC x y wa p1 p2 p3 p4).mono;rintro e w2 ⟨rfl,a9⟩;have I:=qB a5 a9;have c9:=bt c8 a9;have d3:=c9.size;go_wp2_with (first
   |(at_builtin;refine eP _ rfl _ _ 36 rfl _ 37 _ _ 2 _ underlying36 hi b7 b8 b9 rfl Dd _ _ _ rfl (I.alloc _) (az _ 0) 1 1 [ai x,ai y] rfl rfl ?c1 ?c2 ?c3 ?c4 ?c5 ?_))
  case c1=>
   intro j u hj;match j,hj with
   |0,hj=>simp at hj;subst hj;simp[Addr.add]
   |1,hj=>simp at hj;subst hj;simp[Addr.add]
  case c2=>intro u hu;simp at hu;rcases hu with rfl|rfl <;> rfl
  case c3=>unfold maxLen;omega
  case c4=>omega
  case c5=>simp;omega
  intro v' w1 a6 a7 _;have hb:=zW d3 I c9 a7;have b1:oW w1 (J w.1) 37 2 v' (k+1) (rcs (l.take (k+1))):=by
   rw[HS.o];exact a6
  go_wp2;go_roundw;exact⟨k+1,Oo,Gg,b1,hb⟩;exact Im
 obtain rfl:k=n:=Oo;have i1:=aY k;rw[hn.o,tL,<-hn.o,<-V.o]at M;go_wp2;go_ret;exact⟨_,rfl,M,O⟩
def qAa w g cap l k(h:OwnI w g l)(hl:E l<=1099511627776)(hk:0<=k)(a3:k<=1099511627776):
 aF 17 #[sZ g 0 (E l) cap,ai k] w (ai (k+E l)) λw'=>OwnI w' g (QZ k (E l))/\Og g w w':=by
 have⟨n,V⟩:=Ex (E l);have HO:Hh ((∀j,j<n->eQ w (az g j)=Q (ai (U l j 0)))/\∀j,j<n->w.frozen? (az g j)=nF):=by rw[V];exact⟨h.cell,h.L⟩
 have K:=h.lt;rw[<-V]at hl |-;clear h V;go_enter func17,ntmps17;go_wp2;go_loopw [1,5] (λu t wr=>∃j:Nat,j<=n/\t=ai j/\u=ai (k+j)/\Og g w wr/\Hh ((∀i,i<n->eQ wr (az g i)=Q (ai (if i<j then k+(i:Nat) else U l i 0)))/\∀i,i<n->wr.frozen? (az g i)=nF)) (λ_ t _=>n-(intOf t).toNat);exact⟨0,eC,rfl,Ss,Og.refl _ _,ay ⟨λi hi=>by rw[fF Oo];exact HO.1 i hi,HO.2⟩⟩;obtain⟨j,hj,rfl,rfl,hB,I⟩:=hrel;by_cases M:j<n
 .have i1:=aV M;have c2:=I.1 j M;have c3:=I.2 j M;go_wp2;go_roundw
  case rel=>
   refine⟨j+1,Oo,Gg,Gg,hB.set _ _,ay ⟨λi hi=>?_,λi hi=>by rw[fS];exact I.2 i hi⟩⟩;by_cases e:i=j;subst e;rw[fE Oo];exact eJ c2;rw[eE (by intro O;simp only[aI]at O;omega),I.o.1 i hi];by_cases O:i<j;rw[fE O,fE Oo];rw[fF O,fF Oo]
  case measure=>exact Im
 obtain rfl:j=n:=Oo;have i1:=aY j;go_wp2;go_ret;refine⟨rfl,⟨λi hi=>?_,λi hi=>I.o.2 i (by rwa[jY]at hi),by rw[hB.size];exact K⟩,hB⟩;rw[jY]at hi;rw[I.o.1 i hi,fE hi,VC hi]
def qAb w g k(h:OwnI w g (QZ k n))(hl:n<=1099511627776)(hk:0<=k)(M:k<=1099511627776):
 aF 20 #[sZ g 0 n cap,ai k] w (ai (k+n)) λw'=>w'=w:=by
 have O:Hh (∀j,j<n->aC w g j (ai (k+(j:Nat)))):=λj I=>by
  have:=h.cell j (by rw[jY];exact I);rwa[VC I]at this
 go_enter func20,ntmps20;go_wp2;go_loop [1,5] (λu t=>∃j:Nat,j<=n/\t=ai j/\u=ai (k+j)) (λ_ t=>n-(intOf t).toNat);exact⟨0,eC,rfl,Ss⟩;obtain⟨j,I,rfl,rfl⟩:=hrel;by_cases K:j<n
 .have i1:=aV K;have c2:=O j K;have V:((k+(j:Int)) != (k+(j:Int)))=false:=Ss;go_wp2;go_round;exact⟨j+1,Oo,Gg,Gg⟩;exact Im
 obtain rfl:j=n:=Oo;have i1:=aY j;go_wp2;go_ret;exact⟨rfl,rfl⟩
def qD(h:oW w B e s v n xs)(hb:∀g,v.ownBlock=Q g->w'.1[g]?=w.1[g]?):oW w' B e s v n xs:=by
 have⟨K,I⟩:=h;refine⟨K,?_⟩;rcases I with I|⟨g,cap,cur,rfl,hb',M,O⟩;exact .inl I;exact .inr ⟨g,cap,cur,rfl,hb',(hb g rfl).trans M,O⟩
def qN(h:oW w B 3 1 v (E l) (l.map ai)):IS w v l:=by
 rcases h.2 with ⟨rfl,I⟩|⟨g,cap,cur,rfl,hb',M,O⟩;exact⟨none,0,by rw[I],.inl I⟩;refine⟨_,cap,rfl,.inr ⟨g,0,rfl,λj K=>?_⟩⟩;rw[cU,h.cellAt j Oo,bK,gE K,gD,gE K];rfl
def qFt(h:oW w B 3 1 (sZ g 0 (E l) cap) (E l) (l.map ai)):OwnI w g l where
 cell j hj:=by
  rw[h.cellAt j Oo,bK,gE hj,gD,gE hj];rfl
 L j _:=h.frozenAt j
 lt:=(h.lt g rfl).2
def qAc w(a:OA)cap k:
 aF 17 #[Z a 0 cap,ai k] w (ai k) λw'=>w'=w:=by
 go_enter func17,ntmps17;go_wp2;refine sA 1 ?_;rw[rounds_succ];go_wp2;go_ret;exact⟨rfl,rfl⟩
def qAd w(a:OA)cap k:
 aF 20 #[Z a 0 cap,ai k] w (ai k) λw'=>w'=w:=by
 go_enter func20,ntmps20;go_wp2;refine sA 1 ?_;rw[rounds_succ];go_wp2;go_ret;exact⟨rfl,rfl⟩
def IR.zz{l}(h:IR w v l)(hb:Bl w w'):IR w' v l:=by
 obtain⟨a,cap,rfl,h⟩:=h;refine⟨a,cap,rfl,?_⟩;rcases h with h|⟨b,o,rfl,h⟩;exact .inl h;exact .inr ⟨b,o,rfl,λj I=>⟨(hb.cell (bL w _ (h j I).1)).trans (h j I).1,(hb.cell (bL w _ (h j I).2)).trans (h j I).2⟩⟩
def YZ(O:eQ I (az b o)=Q v0)(V:eQ I (az b (o+1))=Q v1)(k0:eQ I (az K M)=Q u0)(k1:eQ I (az K (M+1))=Q u1)(hb:Bl I W):
 eQ W (az b o)=Q v0/\eQ W (az b (o+1))=Q v1/\eQ W (az K M)=Q u0/\eQ W (az K (M+1))=Q u1/\Bl I W:=
 ⟨(hb.cell (bL I _ O)).trans O,(hb.cell (bL I _ V)).trans V,(hb.cell (bL I _ k0)).trans k0,(hb.cell (bL I _ k1)).trans k1,hb⟩
def qCM{l}(h:IR w v l)(h':IR w u l)(hl:E l<=1099511627776):
 aG 37 #[v,u] w (oB true):=by
 obtain⟨a,cap,rfl,hc⟩:=h;obtain⟨a',a5,rfl,K⟩:=h';have⟨n,hn⟩:=Ex (E l);rw[<-hn]at hc K hl |-;change Hh _ at hc K;clear hn;have a6:((n:Int) != (n:Int))=false:=Ss;go_enter func37,ntmps37;go_wp2;go_loopw [5] (λt wr=>∃j:Nat,j<=n/\t=ai j/\Hh (Bl w wr)) (mZ n);exact⟨0,eC,rfl,ay eB⟩;obtain⟨j,hj,rfl,hB⟩:=hrel;by_cases V:j<n
 .have i1:=aV V;rcases hc.o with h0|⟨b,o,rfl,hrel⟩;omega;rcases K.o with h0|⟨M,O,rfl,I⟩;omega;have⟨e0,e1⟩:=hrel j V;have⟨f0,f1⟩:=I j V;have c0:=(hB.o.cell (bL w _ e0)).trans e0;have c1:=(hB.o.cell (bL w _ e1)).trans e1;have d0:=(hB.o.cell (bL w _ f0)).trans f0;have d1:=(hB.o.cell (bL w _ f1)).trans f1;clear hrel I e0 e1 f0 f1;generalize (U l j (0,0)).1=x,(U l j (0,0)).2=y at *;have a3:Hh (∀W,(aC W b (o+j*2) (ai x)/\aC W b (o+j*2+1) (ai y)/\aC W M (O+j*2) (ai x)/\aC W M (O+j*2+1) (ai y)/\Bl wr W)->Bl wr W):=λW hW=>hW.2.2.2.2;go_wp2_with fail;go_region_held3 (λW=>aC W b (o+j*2) (ai x)/\aC W b (o+j*2+1) (ai y)/\aC W M (O+j*2) (ai x)/\aC W M (O+j*2+1) (ai y)/\Bl wr W)
   (first|exact YZ c0 c1 d0 d1 eB.drew|refine YZ c0 c1 d0 d1 (bt (a3.o _ ?_) hb);assumption)
   (first|go_at_call 38;apply (VQ).mono;rintro e w' ⟨rfl,hb⟩)
  go_wp2;go_roundw;exact⟨j+1,Oo,Gg,ay (bt hB (a3 _ (by assumption)))⟩;exact Im
 obtain rfl:j=n:=Oo;have i1:=aY j;go_wp2;go_ret;exact⟨rfl,hB⟩
def qHL l j(h:j<E l):(rcs l)[j*2]?=Q (ai (U l j (0,0)).1)/\(rcs l)[j*2+1]?=Q (ai (U l j (0,0)).2):=by
 unfold rcs;induction l generalizing j with
 |nil=>simp at h
 |cons a l ih=>
  rw[dS];cases j with
  |zero=>simp
  |succ j=>
   have:=ih j (by simpa using h);rw[bQ Sy,bQ Sy];simp only[cQ,length_nil];rw[show(j+1)*2-(0+1+1)=j*2 by omega,show(j+1)*2+1-(0+1+1)=j*2+1 by omega];simpa using this
def Zh{l}(h:oW w B 37 2 v (E l) (rcs l)):IR w v l:=by
 rcases h.2 with ⟨rfl,I⟩|⟨g,cap,cur,rfl,hb',M,O⟩;exact⟨none,0,by rw[I],.inl I⟩;refine⟨_,cap,rfl,.inr ⟨g,0,rfl,λj K=>?_⟩⟩;rw[cU,h.cellAt (j*2) Oo,h.cellAt (j*2+1) Oo];exact qHL l j K
structure Fr(lo hi:Nat)(w w':oX):Prop where
 os:w'.os=w.os
 tape:w'.tape=w.tape
 output:w'.output=w.output
 size:J w.1<=J w'.1
 block:∀b,b<J w.1->(b<lo\/hi<=b)->w'.1[b]?=w.1[b]?
def Fr.refl lo hi w:Fr lo hi w w:=⟨rfl,rfl,rfl,eA,λ_ _ _=>rfl⟩
def Fr.trans{lo hi b c}(h:Fr lo hi a b)(k:Fr lo hi b c):Fr lo hi a c:=
 ⟨k.os.trans h.os,k.tape.trans h.tape,k.output.trans h.output,bM h.size k.size,λx I K=>(k.block x (bN I h.size) K).trans (h.block x I K)⟩
def Fr.O{lo hi b c}(h:Fr lo hi a b)(k:Bl b c):Fr lo hi a c:=
 h.trans ⟨k.os,k.tape,k.output,k.size,λx I _=>k.block x I⟩
def Fr.set{lo hi b}(h:Fr lo hi a b)(I:lo<=g)(K:g<hi):Fr lo hi a (sW b (az g o) v):=
 h.trans ⟨rfl,rfl,rfl,by simp[World.setCell],λx _ M=>eG (by show x≠g;omega)⟩
structure Mk(lo hi:Nat)(w w':oX):Prop where
 fr:Fr lo hi w w'
 num:∀b q x,eQ w (az b q)=Q (ai x)->∃y,eQ w' (az b q)=Q (ai y)
 str:∀b q x,eQ w (az b q)=Q (.string x)->∃y,eQ w' (az b q)=Q (.string y)
 sl:∀b q a n c,eQ w (az b q)=Q (Z a n c)->eQ w' (az b q)=Q (Z a n c)
 froz:∀b q,b<J w.1->w.frozen? (az b q)=nF->w'.frozen? (az b q)=nF
section
variable {lo hi:Nat} {a b c:oX}
def Mk.refl lo hi a:Mk lo hi a a:=⟨Fr.refl _ _ _,λ_ _ x h=>⟨x,h⟩,λ_ _ x h=>⟨x,h⟩,λ_ _ _ _ _ h=>h,λ_ _ _ h=>h⟩
def Mk.trans(h:Mk lo hi a b)(k:Mk lo hi b c):Mk lo hi a c:=
 ⟨h.fr.trans k.fr,λx q u e=>by obtain⟨y,I⟩:=h.num x q u e;exact k.num x q y I,λx q u e=>by obtain⟨y,I⟩:=h.str x q u e;exact k.str x q y I,λx q u n m e=>k.sl x q u n m (h.sl x q u n m e),λx q e f=>k.froz x q (bN e h.fr.size) (h.froz x q e f)⟩
def qGN{x q}(h:Bl W W')(e:eQ W (az x q)=Q u):eQ W' (az x q)=Q u:=(h.cell (bL W _ e)).trans e
def Mk.zu(h:Bl a b):Mk lo hi a b:=
 ⟨(Fr.refl _ _ a).O h,λ_ _ u e=>⟨u,qGN h e⟩,λ_ _ u e=>⟨u,qGN h e⟩,λ_ _ _ _ _ e=>qGN h e,λx q e f=>(h.frozen (p:=az x q) e).trans f⟩
def Mk.setI{x y}(h:eQ a (az g o)=Q (ai x))(K:lo<=g)(M:g<hi):Mk lo hi a (sW a (az g o) (ai y)):=by
 have ne:∀{b q:Nat} {u:oV},aC a b q u->(b=g/\q=o)\/aC (sC a g o (ai y)) b q u:=λ{b q u} e=>by
  by_cases I:b=g/\q=o;exact .inl I;exact .inr ((eE (by intro O;simp only[aI]at O;exact I ⟨Oo,Oo⟩)).trans e)
 refine⟨(Fr.refl _ _ a).set K M,λb q u e=>?_,λb q u e=>?_,λb q u n m e=>?_,λb q _ f=>by rw[fS];exact f⟩
 .rcases ne e with ⟨rfl,rfl⟩|I;exact⟨y,eJ h⟩;exact⟨u,I⟩
 .rcases ne e with ⟨rfl,rfl⟩|I;rw[h]at e;cases e
  exact⟨u,I⟩
 rcases ne e with ⟨rfl,rfl⟩|I;rw[h]at e;cases e
 exact I
end
structure ShI(lo hi:Nat)(W:oX)(g n:Nat):Prop where
 lo:lo<=g
 hi:g<hi
 lt:g<J W.1
 cell:∀j,j<n->∃x,eQ W (az g j)=Q (ai x)
 L:∀j,j<n->W.frozen? (az g j)=nF
def ShI.kp{lo hi}(h:ShI lo hi W g n)(k:Mk lo hi W W'):ShI lo hi W' g n:=
 ⟨h.lo,h.hi,bN h.lt k.fr.size,λj I=>by obtain⟨x,e⟩:=h.cell j I;exact k.num _ _ _ e,λj I=>k.froz _ _ h.lt (h.L j I)⟩
def OwnI.sh{lo hi}(h:OwnI W g l)(I:lo<=g)(K:g<hi):ShI lo hi W g (E l):=⟨I,K,h.lt,λj M=>⟨_,h.cell j M⟩,h.L⟩
def yY w{lo hi}g(cap k:Nat)(h:ShI lo hi w g n)(hn:n<=1048576)(hk:k<=1099511627776):
 aF 17 #[sZ g 0 n cap,ai (k:Int)] w (ai ((k+n:Nat):Int)) λw'=>Mk lo hi w w':=by
 change Hh _ at h;go_enter func17,ntmps17;go_wp2;go_loopw [1,5] (λu t wr=>∃j:Nat,j<=n/\t=ai j/\u=ai ((k+j:Nat):Int)/\Hh (Mk lo hi w wr)) (λ_ t _=>n-(intOf t).toNat);exact⟨0,eC,rfl,rfl,ay (Mk.refl _ _ _)⟩;obtain⟨j,hj,rfl,rfl,I⟩:=hrel;by_cases K:j<n
 .have i1:=aV K;have M:=h.o.kp I;have⟨x,c2⟩:=M.cell j K;have c3:=M.L j K;have V:Hh (∀y:Int,Mk lo hi w (sC wr g j (ai y))):=λy=>I.o.trans (Mk.setI c2 M.lo M.hi);go_wp2;go_roundw;exact⟨j+1,Oo,Gg,Gg,ay (V _)⟩;exact Im
 obtain rfl:j=n:=Oo;have i1:=aY j;go_wp2;go_ret;first|exact⟨rfl,I⟩|exact I.o
def uJ(ln:NN):NN
 |0=>0
 |j+1=>uJ ln j+ln j
def qCw I:∀{i j:Nat},i<=j->uJ I i<=uJ I j
 |i,0,h=>by
  have e:=Nat.le_zero.1 h;subst e;exact eA
 |i,j+1,h=>by
  by_cases e:i=j+1;rw[e];exact eA;exact bM (qCw I (i:=i) (j:=j) Oo) (nQ _ _)
def YS ls:∀k,k<=E ls->tot ls k=E ls+uJ (λi=>E (U ls i [])) k
 |0,_=>by rw[YI];rfl
 |k+1,h=>by rw[Qv ls k Oo,YS ls k Oo];show _=E ls+(uJ _ k+E (U ls k []));omega
def ShSS(lo hi:Nat)(W:oX)(G n:Nat)(ln:NN):Prop:=∀j,j<n->∃c,eQ W (az G j)=Q (sZ c 0 (ln j) (ln j))/\ShI lo hi W c (ln j)
def ShSS.kp{lo hi I}(h:ShSS lo hi W G n I)(k:Mk lo hi W W'):ShSS lo hi W' G n I:=λj K=>by
 have⟨c,e,M⟩:=h j K;exact⟨c,k.sl _ _ _ _ _ e,M.kp k⟩
def Zu w{lo hi}G(cap k:Nat){I}(h:ShSS lo hi w G n I)(hn:n<=1048576)(hs:uJ I n<=1048576)(hk:k<=99511627776):
 aF 18 #[sZ G 0 n cap,ai (k:Int)] w (ai ((k+uJ I n:Nat):Int)) λw'=>Mk lo hi w w':=by
 have HS:=ay h;have HL:Hh (∀i,i<n->uJ I i+I i<=1048576):=λi hi=>bM (qCw I (show i+1<=n from hi)) hs;go_enter func18,ntmps18;go_wp2;go_loopw [1,5] (λu t wr=>∃j:Nat,j<=n/\t=ai j/\∃c:Nat,u=ai (c:Int)/\Hh (c=k+uJ I j/\Mk lo hi w wr)) (λ_ t _=>n-(intOf t).toNat);exact⟨0,eC,rfl,k,rfl,ay ⟨rfl,Mk.refl _ _ _⟩⟩;obtain⟨j,hj,rfl,c,rfl,M⟩:=hrel;by_cases O:j<n
 .have i1:=aV O;have⟨b,c2,hb⟩:=(HS.o.kp M.2) j O;have hL:=HL j O;have K:=ay (yY _ b (I j) c hb Oo (by rw[M.o.1];omega));have HE:Hh (c+I j=k+uJ I (j+1)):=(by rw[M.o.1];show _=k+(uJ I j+I j);omega);have V:=ay M.2;generalize I j=m at *;go_wp2_with fail;apply K.o.mono;rintro e w2 ⟨rfl,hm⟩;have HN:=ay (V.o.trans hm);go_wp2;go_roundw;exact⟨j+1,Oo,Gg,_,rfl,ay ⟨HE,HN⟩⟩;exact Im
 obtain rfl:j=n:=Oo;have i1:=aY j;go_wp2;go_ret;exact⟨qa (O1 M.1),M.2⟩
def XF vs rows ws:
 (qb vs=nF/\ql vs rows ws=nF)\/(qb vs/\10000<E rows/\ql vs rows ws=nF)\/(qb vs/\E rows<=10000/\yM rows (E vs)=nF/\ql vs rows ws=nF)\/
 (qb vs/\E rows<=10000/\yM rows (E vs)/\ql vs rows ws=oD (E ws=E rows)):=by
 unfold ql;cases h1:qb vs
 left;simp;right;by_cases K:10000<E rows;left;simp;omega;right;have I:oD (E rows<=10000):=Sy;cases h4:yM rows (E vs)
 left;simp;omega;right;simp[I];omega
def Ug(a b:Nat):oD ((a:Int)=b)=oD (a=b):=by
 by_cases h:a=b;simp[h];rw[fC h,fC Oo]
def vQ w vs rows{ws}(h:IT w v0 v1 v2 vs rows ws)(hv:E vs<=1099511627776)(V:qS rows):
 aG 114 #[aQ #[v0,v1,v2]] w (oB (ql vs rows ws)):=by
 have M:Hh (Bl w (aJ w #[v0,v1,v2] 58)):=aK;have K:=ay (zn _ _ (h.e.zz M) hv);have O:=ay (ZS (E vs) (h.x.zz M) V);have a4:=V.1;obtain⟨a0,k0,rfl,-⟩:=h.e;obtain⟨a1,k1,rfl,-⟩:=h.x;obtain⟨a2,k2,rfl,-⟩:=h.k;have a3:=XF vs rows ws;generalize ql vs rows ws=res at *;rcases a3 with ⟨c0,c1⟩|⟨c0,c1,c2⟩|⟨c0,c1,c2,c3⟩|⟨c0,c1,c2,c3⟩
 .rw[c0]at K;subst c1;generalize E vs=n0,E rows=n1 at *;go_enter func114,ntmps114;go_wp2_with (go_at_call 109;apply K.o.mn;intro w' I;subst w');go_ret;exact⟨rfl,M⟩
 .rw[c0]at K;subst c2;generalize E vs=n0,E rows=n1 at *;have i1:¬((n1:Int)<=10000):=Oo;go_enter func114,ntmps114;go_wp2_with (go_at_call 109;apply K.o.mn;intro w' I;subst w');go_ret;exact⟨rfl,M⟩
 .rw[c0]at K;rw[c2]at O;subst c3;generalize E vs=n0,E rows=n1 at *;have i1:(n1:Int)<=10000:=Oo;go_enter func114,ntmps114;go_wp2_with (first|go_at_call 109;apply K.o.mn;intro w' I;subst w'|go_at_call 154;apply O.o.mn;intro w' I;subst w');go_ret;exact⟨rfl,M⟩
 rw[c0]at K;rw[c2]at O;rw[<-Ug]at c3;change Hh _ at c3;generalize E vs=n0,E rows=n1,E ws=n2 at *;have i1:(n1:Int)<=10000:=Oo;go_enter func114,ntmps114;go_wp2_with (first|go_at_call 109;apply K.o.mn;intro w' I;subst w'|go_at_call 154;apply O.o.mn;intro w' I;subst w');go_ret;exact⟨qJ (by rw[c3.o];rfl),M⟩
def Uh{vs rows ws}(h:IT w v0 v1 v2 vs rows ws)(hv:E vs<=1099511627776)(V:qS rows):
 aG 40 #[aQ #[v0,v1,v2]] w (oB (ql vs rows ws)):=by
 have M:Hh (Bl w (aJ w #[v0,v1,v2] 58)):=aK;have K:=ay (Jv (h.e.zz M) hv);have O:=ay (ZV (E vs) (h.x.zz M) V);have a4:=V.1;obtain⟨a0,k0,rfl,-⟩:=h.e;obtain⟨a1,k1,rfl,-⟩:=h.x;obtain⟨a2,k2,rfl,-⟩:=h.k;have a3:=XF vs rows ws;generalize ql vs rows ws=res at *;rcases a3 with ⟨c0,c1⟩|⟨c0,c1,c2⟩|⟨c0,c1,c2,c3⟩|⟨c0,c1,c2,c3⟩
 .rw[c0]at K;subst c1;generalize E vs=n0,E rows=n1 at *;go_enter func40,ntmps40;go_wp2_with (go_at_call 55;apply K.o.mn;intro w' I;subst w');go_ret;exact⟨rfl,M⟩
 .rw[c0]at K;subst c2;generalize E vs=n0,E rows=n1 at *;have i1:¬((n1:Int)<=10000):=Oo;go_enter func40,ntmps40;go_wp2_with (go_at_call 55;apply K.o.mn;intro w' I;subst w');go_ret;exact⟨rfl,M⟩
 .rw[c0]at K;rw[c2]at O;subst c3;generalize E vs=n0,E rows=n1 at *;have i1:(n1:Int)<=10000:=Oo;go_enter func40,ntmps40;go_wp2_with (first|go_at_call 55;apply K.o.mn;intro w' I;subst w'|go_at_call 56;apply O.o.mn;rintro w' ⟨q',I⟩;subst w');go_ret;exact⟨rfl,below_drewN M _⟩
 rw[c0]at K;rw[c2]at O;rw[<-Ug]at c3;change Hh _ at c3;generalize E vs=n0,E rows=n1,E ws=n2 at *;have i1:(n1:Int)<=10000:=Oo;go_enter func40,ntmps40;go_wp2_with (first|go_at_call 55;apply K.o.mn;intro w' I;subst w'|go_at_call 56;apply O.o.mn;rintro w' ⟨q',I⟩;subst w');go_ret;exact⟨qJ (by rw[c3.o];rfl),below_drewN M _⟩
def qBi w{vs rows ws}(h:IT w v0 v1 v2 vs rows ws)(K:IT w u0 u1 u2 vs rows ws)(hv:E vs<=1099511627776)(V:qS rows)(hw:E ws<=1099511627776):
 aG 36 #[aQ #[v0,v1,v2],aQ #[u0,u1,u2]] w (oB true):=by
 have I:Hh (Bl w (S (aJ w #[v0,v1,v2] 58) (eZ #[u0,u1,u2] 58))):=(aK).alloc Ss _;have H:=ay h;have O:=ay K;change Hh _ at V;obtain⟨a0,k0,rfl,-⟩:=h.e;obtain⟨a1,k1,rfl,-⟩:=h.x;obtain⟨a2,k2,rfl,-⟩:=h.k;obtain⟨b0,l0,rfl,-⟩:=K.e;obtain⟨b1,l1,rfl,-⟩:=K.x;obtain⟨b2,l2,rfl,-⟩:=K.k;go_enter func36,ntmps36;go_wp2_with fail;apply (kN _ (H.o.e.zz I.o) (O.o.e.zz I.o) hv).mn;rintro w1 ⟨q1,M⟩;subst w1;go_wp2_with fail;apply (jZ _ _ (H.o.x.zz (below_drewN I.o _)) (O.o.x.zz (below_drewN I.o _)) V.o).mn;rintro w1 ⟨q2,M⟩;subst w1;go_wp2_with fail;apply (kN _ (H.o.k.zz (below_drewN I.o _)) (O.o.k.zz (below_drewN I.o _)) hw).mn;rintro w1 ⟨q3,M⟩;subst w1;go_wp2;go_ret;exact⟨rfl,by repeat' first|exact I|refine below_drewN ?_ _⟩
def xE{a}(hb:Bl w w')(h:w.cell? a=Q v):w'.cell? a=Q v:=(hb.cell (bL w _ h)).trans h
structure TbV where
 e:LI
 x:LL
 k:LI
def qA:TbV:=⟨[],[],[]⟩
structure TvS(t:TbV):Prop where
 e:E t.e<=1099511627776
 x:qS t.x
 k:E t.k<=1099511627776
def TabAt(W:oX)(b o:Nat)(t:TbV):Prop:=∃v0 v1 v2,eQ W (az b o)=Q v0/\eQ W (az b (o+1))=Q v1/\eQ W (az b (o+2))=Q v2/\IT W v0 v1 v2 t.e t.x t.k
def TabAt.zz{t}(h:TabAt W b o t)(hb:Bl W W'):TabAt W' b o t:=by
 have⟨v0,v1,v2,c0,c1,c2,hi⟩:=h;exact⟨v0,v1,v2,xE hb c0,xE hb c1,xE hb c2,hi.zz hb⟩
def ITs(W:oX)(v:oV)(tl:List TbV):Prop:=∃a cap,v=Z a (E tl) cap/\(E tl=0\/∃b o,a=Q (az b o)/\∀j,j<E tl->TabAt W b (o+j*3) (U tl j qA))
def ITs.zz{tl}(h:ITs W v tl)(hb:Bl W W'):ITs W' v tl:=by
 have⟨a,cap,e,h⟩:=h;refine⟨a,cap,e,?_⟩;rcases h with h|⟨b,o,I,h⟩;exact .inl h;exact .inr ⟨b,o,I,λj K=>(h j K).zz hb⟩
def qJn(c:α->LV)(I:∀x,E (c x)=3)(ss:List α):∀t,(ss.flatMap c)[t]?=(ss[t / 3]?).bind λx=>(c x)[t % 3]?:=by
 induction ss with
 |nil=>intro t;simp
 |cons x r ih=>
  intro t;rw[dS];by_cases h:t<3;rw[aL (by rw[I];omega),sU h,rG h];rfl;obtain⟨s,rfl⟩:∃s,t=s+3:=⟨t-3,Oo⟩;rw[bQ (by rw[I];omega)];have e:s+3-E (c x)=s:=by rw[I];omega
  rw[e,ih s,sM,sN _ Dd];rfl
def qEC(c:α->LV)(M:∀x,E (c x)=3)d{tl:List α}(h:oW W B ty 3 v (E tl) (tl.flatMap c)):
 ∃a cap,v=Z a (E tl) cap/\(E tl=0\/∃g,a=Q (az g 0)/\(∃cur,W.1[g]?=Q (eZ cur ty (0,0)))/\∀j q,j<E tl->q<3->eQ W (az g (j*3+q))=(c (U tl j d))[q]?):=by
 rcases h.2 with ⟨rfl,I⟩|⟨g,cap,cur,rfl,hb',K,I,-,-,O⟩;exact⟨none,0,by rw[I],.inl I⟩;refine⟨_,cap,rfl,.inr ⟨g,rfl,⟨cur,K⟩,λj q V hq=>?_⟩⟩;rw[eI K,<-dY,<-cL (by omega:j*3+q<E tl*3),O,qJn c M,show(j*3+q) / 3=j by omega,show(j*3+q) % 3=q by omega,gD,gE V];rfl
def qBh
 (O:eQ I (az b o)=Q v0) (V:eQ I (az b (o+1))=Q v1) (h2:eQ I (az b (o+2))=Q v2)
 (k0:eQ I (az K M)=Q u0) (k1:eQ I (az K (M+1))=Q u1) (k2:eQ I (az K (M+2))=Q u2) (hb:Bl I W):
 eQ W (az b o)=Q v0/\eQ W (az b (o+1))=Q v1/\eQ W (az b (o+2))=Q v2/\eQ W (az K M)=Q u0/\eQ W (az K (M+1))=Q u1/\eQ W (az K (M+2))=Q u2/\Bl I W:=
 ⟨xE hb O,xE hb V,xE hb h2,xE hb k0,xE hb k1,xE hb k2,hb⟩
def Jw w{O}(h:ITs w v O)(h':ITs w u O)(b1:E O<=1048576)(hr:∀j,j<E O->TvS (U O j qA)):
 aG 13 #[v,u] w (oB true):=by
 obtain⟨a,cap,rfl,hc⟩:=h;obtain⟨a',b8,rfl,a7⟩:=h';change Hh _ at hr;have⟨n,hn⟩:=Ex (E O);rw[<-hn]at hc a7 b1 hr |-;have HC:=ay hc;have b7:=ay a7;clear hc a7 hn;have b9:((n:Int) != (n:Int))=false:=Ss;go_enter func13,ntmps13;go_wp2;go_loopw [5] (λt wr=>∃j:Nat,j<=n/\t=ai j/\Hh (Bl w wr)) (mZ n);exact⟨0,eC,rfl,ay eB⟩;obtain⟨j,hj,rfl,hB⟩:=hrel;by_cases a8:j<n
 .have i1:=aV a8;rcases HC.o with h0|⟨b,o,rfl,hrel⟩;omega;rcases b7.o with h0|⟨V,o',rfl,K⟩;omega;have⟨v0,v1,v2,c0,c1,c2,M⟩:=(hrel j a8).zz hB;have⟨u0,u1,u2,d0,d1,d2,I⟩:=(K j a8).zz hB;have a6:=hr j a8;have HW:Hh (∀W,(aC W b (o+j*3) v0/\aC W b (o+j*3+1) v1/\aC W b (o+j*3+2) v2/\aC W V (o'+j*3) u0/\aC W V (o'+j*3+1) u1/\aC W V (o'+j*3+2) u2/\Bl wr W)->
   Cl 36 #[aQ #[v0,v1,v2],aQ #[u0,u1,u2]] W λe w'=>e=rE (oB true)/\Bl W w'):=λW hW=>
    qBi W (M.zz hW.2.2.2.2.2.2) (I.zz hW.2.2.2.2.2.2) a6.e a6.x a6.k
  have a9:Hh (∀W,(aC W b (o+j*3) v0/\aC W b (o+j*3+1) v1/\aC W b (o+j*3+2) v2/\aC W V (o'+j*3) u0/\aC W V (o'+j*3+1) u1/\aC W V (o'+j*3+2) u2/\Bl wr W)->Bl wr W):=λW hW=>hW.2.2.2.2.2.2;obtain⟨a0,k0,rfl,-⟩:=M.e;obtain⟨a1,k1,rfl,-⟩:=M.x;obtain⟨a2,k2,rfl,-⟩:=M.k;obtain⟨a3,k3,rfl,-⟩:=I.e;obtain⟨a4,k4,rfl,-⟩:=I.x;obtain⟨a5,k5,rfl,-⟩:=I.k;clear M I a6 hrel K;generalize E (U O j qA).e=n0,E (U O j qA).x=n1,E (U O j qA).k=n2 at *;go_wp2_with fail;go_region_held3 (λW=>aC W b (o+j*3) (Z a0 n0 k0)/\aC W b (o+j*3+1) (Z a1 n1 k1)/\aC W b (o+j*3+2) (Z a2 n2 k2)/\aC W V (o'+j*3) (Z a3 n0 k3)/\aC W V (o'+j*3+1) (Z a4 n1 k4)/\aC W V (o'+j*3+2) (Z a5 n2 k5)/\Bl wr W)
   (first|exact qBh c0 c1 c2 d0 d1 d2 eB.drew|refine qBh c0 c1 c2 d0 d1 d2 (bt (a9.o _ ?_) hb);assumption)
   (first|go_at_call 36;refine(HW.o _ ?_).mono ?_;assumption;rintro e w' ⟨rfl,hb⟩)
  go_wp2;go_roundw;exact⟨j+1,Oo,Gg,ay (bt hB (a9 _ (by assumption)))⟩;exact Im
 obtain rfl:j=n:=Oo;have i1:=aY j;go_wp2;go_ret;exact⟨rfl,hB⟩
