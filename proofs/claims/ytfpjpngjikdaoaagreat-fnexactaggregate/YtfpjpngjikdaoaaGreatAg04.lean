import Derived.Deep.DeepCutAuto
import Derived.Deep.MidRow
import Derived.Deep.RegionHeld3
import Derived.Test.YtfpjpngjikdaoaaGreatAg00
import Derived.Deep.Cut
import Derived.DeepKeys4
import Derived.Maps.OwnOps
import Derived.Maps.OwnSet
import Derived.Maps.RangeWalk
import Derived.Maps.Views
import Derived.Test.YtfpjpngjikdaoaaGreatAg03
set_option maxHeartbeats 40000000
set_option maxRecDepth 1000000
set_option linter.defProp false
open List Go.World
open List renaming length->E,getD->U
open Array renaming size->J
open Go.World renaming alloc->S,setCell->sW,cell?->eQ,rangeAt_setCells_same->tR,there_setCells->tT
open Go.Value renaming bool->oB,agg->aQ,slice->Z
open Go.Obj renaming cells->eZ
open Option renaming some->Q,none->wH
open Bool renaming false->nF
open Decidable renaming decide->oD
open Go renaming World->oX,Value->oV,wpList_store_mid->tC,wpList_load_mid->tE
open Go.Ending renaming returned->rE
open Go.Proofs.Tryz renaming prog->wD
namespace Go.Proofs.YtfpjpngjikdaoaaGreat
open Go.Proofs.Tryz Go.RowKit
variable {N a i j k m n:Nat}{bar p:NB}{B:NN}{C:NQ}{q:Rat}{w w':oX}
structure Lay(cell:Nat->Option oV)(m n:Nat)(C:NQ)(B:NN)(bar:NB):Prop where
 x:cell 0=Q (ai m)
 cols:cell 1=Q (ai n)
 num:∀i j,i<=m->j<=n->cell (2+i*40+j*2)=Q (ai (C i j).num)
 den:∀i j,i<=m->j<=n->cell (2+i*40+j*2+1)=Q (ai (C i j).den)
 bas:∀i,i<m->cell (322+i)=Q (ai (B i:Nat))
 bars:∀j,j<n->cell (330+j)=Q (oB (bar j))
 one:∀o,o<350->∃v,cell o=Q v/\v.oneCell'
 mle:m<=7
 nle:n<=19
structure SxAt(w:oX)(k m n:Nat)(C:NQ)(B:NN)(bar:NB):Prop where
 g:Lay (λo=>eQ w (az k o)) m n C B bar
 L:∀o,o<350->w.frozen? (az k o)=nF
def SxAt.lt(h:SxAt w k m n C B bar):k<J w.1:=
 bL w _ h.g.x
def SxAt.A(h:SxAt w k m n C B bar)(hb:w'.1[k]?=w.1[k]?):SxAt w' k m n C B bar:=by
 have I:∀o,eQ w' (az k o)=eQ w (az k o):=λo=>bF hb;have K:∀o,w'.frozen? (az k o)=w.frozen? (az k o):=λo=>dA hb;exact⟨by rw[show(λo=>eQ w' (az k o))=λo=>eQ w (az k o) from funext I];exact h.g,λo ho=>by rw[K];exact h.L o ho⟩
def SxAt.zz(h:SxAt w k m n C B bar)(hb:Bl w w'):SxAt w' k m n C B bar:=
 h.A (hb.block k h.lt)
structure Kb(k:Nat)(w w':oX):Prop where
 os:w'.os=w.os
 tape:w'.tape=w.tape
 output:w'.output=w.output
 size:J w.1<=J w'.1
 block:∀b,b<J w.1->b≠k->w'.1[b]?=w.1[b]?
def Kb.refl k w:Kb k w w:=⟨rfl,rfl,rfl,eA,λ_ _ _=>rfl⟩
def Kb.trans{a b c}(h:Kb k a b)(g:Kb k b c):Kb k a c:=
 ⟨g.os.trans h.os,g.tape.trans h.tape,g.output.trans h.output,bM h.size g.size,λi hi I=>(g.block i (bN hi h.size) I).trans (h.block i hi I)⟩
def Kb.zu(h:Bl w w'):Kb k w w':=⟨h.os,h.tape,h.output,h.size,λb hb _=>h.block b hb⟩
def Kb.set(h:Kb k w w')o v:Kb k w (sW w' (az k o) v):=
 ⟨h.os,h.tape,h.output,by simpa[World.setCell]using h.size,λb hb I=>(eG I).trans (h.block b hb I)⟩
def Kb.drew(h:Kb k w w'):Kb k w w'.drew:=⟨h.os,h.tape,h.output,h.size,h.block⟩
def Kb.zz(h:Kb k w w')(I:N<=J w.1)(K:N<=k):Below N w w':=
 ⟨h.os,h.tape,h.output,h.size,λb hb=>h.block b Oo Oo⟩
def SxAt.setBar(h:SxAt w k m n C B bar)(V:j<n)b:
 SxAt (sW w (az k (330+j)) (oB b)) k m n C B (λK=>if K=j then b else bar K):=by
 have hn:=h.g.nle;have hm:=h.g.mle;have I:∀o,o≠330+j->eQ (sC w k (330+j) (oB b)) (az k o)=eQ w (az k o):=λo ho=>
  eE Nq
 have M:aC (sC w k (330+j) (oB b)) k (330+j) (oB b):=eJ (h.g.bars j V);refine⟨⟨?_,?_,λi K hi O=>?_,λi K hi O=>?_,λi hi=>?_,λK O=>?_,λo ho=>?_,hm,hn⟩,λo ho=>by rw[fS];exact h.L o ho⟩;show World.cell? _ (az k 0)=_;rw[I 0 Oo];exact h.g.x;show World.cell? _ (az k 1)=_;rw[I 1 Oo];exact h.g.cols;show World.cell? _ (az k (2+i*40+K*2))=_;rw[I _ Oo];exact h.g.num i K hi O;show World.cell? _ (az k (2+i*40+K*2+1))=_;rw[I _ Oo];exact h.g.den i K hi O;show World.cell? _ (az k (322+i))=_;rw[I _ Oo];exact h.g.bas i hi
 .show World.cell? _ (az k (330+K))=_;by_cases e:K=j;subst e;rw[M,fE rfl];rw[I _ Oo,fF e];exact h.g.bars K O
 by_cases e:o=330+j;subst e;exact⟨_,M,rfl⟩;have⟨v,h1,h2⟩:=h.g.one o ho;exact⟨v,(I o e).trans h1,h2⟩
def SxAt.setNum(h:SxAt w k m n C B bar)(hi:i<=m)(hj:j<=n)q:
 SxAt (sW (sW w (az k (2+i*40+j*2)) (ai q.num)) (az k (2+i*40+j*2+1)) (ai q.den)) k m n (λK M=>if K=i/\M=j then q else C K M) B bar:=by
 have hn:=h.g.nle;have hm:=h.g.mle;have I:∀o,o≠2+i*40+j*2->o≠2+i*40+j*2+1->eQ (sW (sW w (az k (2+i*40+j*2)) (ai q.num)) (az k (2+i*40+j*2+1)) (ai q.den)) (az k o)=eQ w (az k o):=λo h1 h2=>by
  rw[eE Nq,eE Nq]
 have hs1:eQ (sW (sC w k (2+i*40+j*2) (ai q.num)) (az k (2+i*40+j*2+1)) (ai q.den)) (az k (2+i*40+j*2))=Q (ai q.num):=by
  rw[eE Nq];exact eJ (h.g.num i j hi hj)
 have hs2:aC (sW (sC w k (2+i*40+j*2) (ai q.num)) (az k (2+i*40+j*2+1)) (ai q.den)) k (2+i*40+j*2+1) (ai q.den):=by
  refine bG _ _ _ (u:=ai (C i j).den) ?_;rw[eE Nq];exact h.g.den i j hi hj
 refine⟨⟨?_,?_,λK M O V=>?_,λK M O V=>?_,λK O=>?_,λM V=>?_,λo ho=>?_,hm,hn⟩,λo ho=>by rw[fS,fS];exact h.L o ho⟩;show World.cell? _ (az k 0)=_;rw[I 0 Oo Oo];exact h.g.x;show World.cell? _ (az k 1)=_;rw[I 1 Oo Oo];exact h.g.cols
 .show World.cell? _ (az k (2+K*40+M*2))=_;by_cases e:K=i/\M=j;obtain⟨rfl,rfl⟩:=e;rw[hs1,fE ⟨rfl,rfl⟩];rw[I _ Oo Oo,fF e];exact h.g.num K M O V
 .show World.cell? _ (az k (2+K*40+M*2+1))=_;by_cases e:K=i/\M=j;obtain⟨rfl,rfl⟩:=e;rw[hs2,fE ⟨rfl,rfl⟩];rw[I _ Oo Oo,fF e];exact h.g.den K M O V
 show World.cell? _ (az k (322+K))=_;rw[I _ Oo Oo];exact h.g.bas K O;show World.cell? _ (az k (330+M))=_;rw[I _ Oo Oo];exact h.g.bars M V;by_cases e:o=2+i*40+j*2;subst e;exact⟨_,hs1,rfl⟩;by_cases e2:o=2+i*40+j*2+1;subst e2;exact⟨_,hs2,rfl⟩;obtain⟨v,h1,h2⟩:=h.g.one o ho;exact⟨v,(I o e e2).trans h1,h2⟩
def SxAt.V{C' B' I}(h:SxAt w k m n C B bar)
 (M:∀i j,i<=m->j<=n->C' i j=C i j) (hB:∀i,i<m->B' i=B i) (hb:∀j,j<n->I j=bar j):SxAt w k m n C' B' I:=
 ⟨⟨h.g.x,h.g.cols,λi j hi K=>by rw[M i j hi K];exact h.g.num i j hi K,λi j hi K=>by rw[M i j hi K];exact h.g.den i j hi K,
  λi hi=>by rw[hB i hi];exact h.g.bas i hi,λj K=>by rw[hb j K];exact h.g.bars j K,h.g.one,h.g.mle,h.g.nle⟩,h.L⟩
def ZZ k m n(h:SxAt w k m n C B bar):
 aF 221 #[pZ k 0] w (.tuple #[]) λw'=>Kb k w w'/\SxAt w' k m n C B (λj=>bar j||(oD (j<n)&&oD (0<C m j))):=by
 have hn:=h.g.nle;have hm:=h.g.mle;have a5:=h.g.cols;go_enter func221,ntmps221;go_wp2;go_loopw [7] (λt wr=>∃j:Nat,j<=n/\t=ai j/\Kb k w wr/\SxAt wr k m n C B (λK=>bar K||(oD (K<j)&&oD (0<C m K)))) (mZ n);exact⟨0,eC,rfl,Kb.refl _ _,by simpa using h⟩;obtain⟨j,hj,rfl,hK,hS⟩:=hrel;by_cases a4:j<n
 .have hr:=hS.g.x;have M:=hS.g.num m j eA hj;have O:=hS.g.den m j eA hj;have i1:(m:Int)<8:=Oo;have i2:(j:Int)<20:=Oo;have i3:=aV a4;have step:∀w',Bl wr w'->Kb k w w'/\SxAt w' k m n C B (λK=>bar K||(oD (K<j)&&oD (0<C m K))):=λw' hb=>⟨hK.trans (Kb.zu hb),hS.zz hb⟩;by_cases hp:0<C m j
  .have hg:(0:Int)<sgR (C m j):=by rw[uY hp];decide
   go_wp2_with fail;go_region_held3 (λw'=>aC w' k 0 (ai m)/\aC w' k (2+m*40+j*2) (ai (C m j).num)/\aC w' k (2+m*40+j*2+1) (ai (C m j).den))
    (first|exact⟨hr,M,O⟩|have I:=hS.lt;exact⟨(hb.cell I).trans hr,(hb.cell I).trans M,(hb.cell I).trans O⟩)
    (first|go_at_call 183;apply (Yr (C m j) _).mono;rintro e w' ⟨rfl,hb⟩)
   have⟨a3,V⟩:=step w' (by exact eB.drew.trans hb);have a7:=V.g.bars j a4;have a8:=V.L (330+j) Oo;go_wp2;go_roundw
   case rel=>
    refine⟨j+1,Oo,Gg,a3.set _ _,(V.setBar a4 _).V (λ_ _ _ _=>rfl) (λ_ _=>rfl) (λK a6=>?_)⟩;by_cases e:K=j;subst e;rw[fE rfl];simp[hp];rw[fF e];by_cases e2:K<j;simp[e2,show K<j+1 by omega];simp[e2,show ¬K<j+1 by omega]
   case measure=>exact Im
  have hg:oD ((0:Int)<sgR (C m j))=false:=by
   by_cases e:C m j<0;rw[uX e];decide;rw[uZ Rr];decide
  go_wp2_with fail;go_region_held3 (λw'=>aC w' k 0 (ai m)/\aC w' k (2+m*40+j*2) (ai (C m j).num)/\aC w' k (2+m*40+j*2+1) (ai (C m j).den))
   (first|exact⟨hr,M,O⟩|have I:=hS.lt;exact⟨(hb.cell I).trans hr,(hb.cell I).trans M,(hb.cell I).trans O⟩)
   (first|go_at_call 183;apply (Yr (C m j) _).mono;rintro e w' ⟨rfl,hb⟩)
  have⟨a3,V⟩:=step w' (by exact eB.drew.trans hb);go_wp2;go_roundw
  case rel=>
   refine⟨j+1,Oo,Gg,a3,V.V (λ_ _ _ _=>rfl) (λ_ _=>rfl) (λK a6=>?_)⟩;by_cases e:K=j;subst e;simp[hp];by_cases e2:K<j;simp[e2,show K<j+1 by omega];simp[e2,show ¬K<j+1 by omega]
  case measure=>exact Im
 obtain rfl:j=n:=Oo;go_wp2;go_end0
 exact⟨rfl,hK,hS⟩
namespace Cov
def first_eq(M:j<n)(I:p j)(O:∀i,i<j->p i=nF):first p n=Q j:=by
 cases hf:first p n with
 |none=>have:=jk hf j M;rw[I]at this;cases this
 |some j'=>
  have⟨h1,K,V⟩:=first_some hf;by_cases e:j'<j;rw[O j' e]at K;cases K
  by_cases e2:j<j';rw[V j e2]at I;cases I
  rw[show j'=j by omega]
def first_eq_none(K:∀i,i<n->p i=nF):first p n=none:=by
 cases hf:first p n with
 |none=>rfl
 |some j=>
  have⟨M,I,_⟩:=first_some hf;rw[K j M]at I;cases I
def idx:Option Nat->Int
 |none=>-1
 |some j=>j
end Cov
def Vp k m n(h:SxAt w k m n C B bar):
 aG 218 #[pZ k 0] w (ai (Cov.idx (Cov.first (λj=>!bar j&&oD (C m j<0)) n))):=by
 have hn:=h.g.nle;have hm:=h.g.mle;have a7:=h.g.cols;have⟨res,V⟩:=Ex (Cov.idx (Cov.first (λj=>!bar j&&oD (C m j<0)) n));rw[<-V];change Hh _ at V;go_enter func218,ntmps218;go_wp2;go_loopw [8] (λt wr=>∃j:Nat,j<=n/\t=ai j/\Bl w wr/\Hh (∀i,i<j->(!bar i&&oD (C m i<0))=nF)) (mZ n);exact⟨0,eC,rfl,eB,ay (λi hi=>Oo)⟩;obtain⟨j,hj,rfl,hK,hz⟩:=hrel;have hS:=h.zz hK;by_cases a6:j<n
 .have hr:=hS.g.x;have M:=hS.g.num m j eA hj;have O:=hS.g.den m j eA hj;have K:=hS.g.bars j a6;have i1:(m:Int)<8:=Oo;have i2:(j:Int)<20:=Oo;have i3:=aV a6;cases hbj:bar j with
  |true=>
   have a3:aC wr k (330+j) (oB true):=by rw[<-hbj];exact K
   have a5:Hh (∀i,i<j+1->(!bar i&&oD (C m i<0))=nF):=λi hi=>by
    by_cases e:i=j;rw[e,hbj];rfl;exact hz i Oo
   clear K hbj hz;go_wp2_with fail;go_quiet (fail)
   go_wp2;go_roundw;exact⟨j+1,Oo,Gg,below_drewN hK _,a5⟩;exact Im
  |false=>
   have a3:aC wr k (330+j) (oB nF):=by rw[<-hbj];exact K
   by_cases hp:C m j<0
   .have hg:sgR (C m j)<0:=by rw[uX hp];decide
    have a4:Hh (res=(j:Int)):=by
     show res=(j:Int);rw[V.o,Cov.first_eq a6 (by rw[hbj];simpa using hp) hz.o];rfl
    clear K hbj hz;go_wp2_with fail;go_region_held3 (λw'=>aC w' k (330+j) (oB nF)/\aC w' k 0 (ai m)/\aC w' k (2+m*40+j*2) (ai (C m j).num)/\aC w' k (2+m*40+j*2+1) (ai (C m j).den))
     (first|exact⟨a3,hr,M,O⟩|have I:=hS.lt;exact⟨(hb.cell I).trans a3,(hb.cell I).trans hr,(hb.cell I).trans M,(hb.cell I).trans O⟩)
     (first|go_at_call 183;apply (Yr (C m j) _).mono;rintro e w' ⟨rfl,hb⟩)
    go_wp2;go_ret;exact⟨qa (by rw[a4.o]),bt hK (eB.drew.trans hb)⟩
   have hg:oD (sgR (C m j)<0)=false:=by
    by_cases e:0<C m j;rw[uY e];decide;rw[uZ Rr];decide
   have a5:Hh (∀i,i<j+1->(!bar i&&oD (C m i<0))=nF):=λi hi=>by
    by_cases e:i=j;rw[e,hbj];simpa using hp;exact hz i Oo
   clear K hbj hz;go_wp2_with fail;go_region_held3 (λw'=>aC w' k (330+j) (oB nF)/\aC w' k 0 (ai m)/\aC w' k (2+m*40+j*2) (ai (C m j).num)/\aC w' k (2+m*40+j*2+1) (ai (C m j).den))
    (first|exact⟨a3,hr,M,O⟩|have I:=hS.lt;exact⟨(hb.cell I).trans a3,(hb.cell I).trans hr,(hb.cell I).trans M,(hb.cell I).trans O⟩)
    (first|go_at_call 183;apply (Yr (C m j) _).mono;rintro e w' ⟨rfl,hb⟩)
   go_wp2;go_roundw;exact⟨j+1,Oo,Gg,bt hK (eB.drew.trans hb),a5⟩;exact Im
 obtain rfl:j=n:=Oo;have a4:Hh (res=-1):=by
  show res=-1;rw[V.o,Cov.first_eq_none hz.o];rfl
 clear hz;go_wp2;go_ret;exact⟨qa (by rw[a4.o]),hK⟩
section
variable {w:oX} {k m n:Nat} {C:NQ} {B:NN} {bar:NB}
def SxAt.drew(h:SxAt w k m n C B bar):SxAt w.drew k m n C B bar:=h.A rfl
def SxAt.alloc(h:SxAt w k m n C B bar)o:SxAt (S w o) k m n C B bar:=h.A (eL h.lt)
def SxAt.far(h:SxAt w k m n C B bar){o}v(I:a≠k):SxAt (sW w (az a o) v) k m n C B bar:=h.A (eG (λe=>I e.symm))
def SxAt.at(h:SxAt w k m n C B bar)(hi:i<=m)(I:j<=n):eQ w (az k (2+i*40+j*2))=Q (ai (C i j).num)/\eQ w (az k (2+i*40+j*2+1))=Q (ai (C i j).den):=
 ⟨h.g.num i j hi I,h.g.den i j hi I⟩
def SxAt.five(h:SxAt w k m n C B bar){c}(hi:i<=m)(I:c<=n):eQ w (az k 1)=Q (ai n)/\eQ w (az k (2+i*40+n*2))=Q (ai (C i n).num)/\eQ w (az k (2+i*40+n*2+1))=Q (ai (C i n).den)/\eQ w (az k (2+i*40+c*2))=Q (ai (C i c).num)/\eQ w (az k (2+i*40+c*2+1))=Q (ai (C i c).den):=
 ⟨h.g.cols,h.g.num i n hi eA,h.g.den i n hi eA,h.g.num i c hi I,h.g.den i c hi I⟩
end
def Sm.inv{B}(h:Sm B q)(I:q≠0):Sm B q⁻¹:=by
 refine zb (Za I) h.1 ⟨q.den,?_,by rw[zT];exact h.2⟩ eA;have e:=Vr q;rw[<-e];generalize (((q.den:Nat):Int):Rat)=d;grind
def qDI(w wc:oX)(v:oV)(q:Rat):Prop:=∃a,v=pZ a 0/\eQ wc (az a 0)=Q (ai q.num)/\eQ wc (az a 1)=Q (ai q.den)/\J w.1<=a/\a<J wc.1/\Bl w wc
def Yk{t}(h:Bl w w'):qDI w (S w' (eZ #[ai q.num,ai q.den] t)) (pZ (J w'.1) 0) q:=
 ⟨J w'.1,rfl,Sg,Sg,h.size,Ss,h.alloc h.size _⟩
def Kc{u v}(h:Bl w w')(I:J w.1<=a)(K:eQ w' (az a 0)=Q u)(M:eQ w' (az a 1)=Q v):
 qDI w (sW (sW w' (az a 0) (ai q.num)) (az a 1) (ai q.den)) (pZ a 0) q:=by
 refine⟨a,rfl,?_,?_,I,?_,(h.setCell (by simpa using I) _).setCell (by simpa using I) _⟩;rw[eE Ss,eJ K];exact eJ (by rw[eE Ss];exact M);have:=bL _ _ K;simpa using this
def jG k m n C B(h:SxAt w k m n C B bar)i o c(hi:i<m)(ho:o<m)(hc:c<n)
 (b7:C i c≠0) (b8:C o c≠0) (K:∀a b,a<=m->b<=n->Sm 41000 (C a b)):
 aG 240 #[pZ k 0,ai i,ai o,ai c] w (oB (Cov.before C B n c i o)):=by
 have hn:=h.g.nle;have hm:=h.g.mle;have d5:=h.lt;have M:=h.g.cols;have⟨a1,a2⟩:=h.at (i:=i) (j:=n) Oo Oo;have⟨a3,a4⟩:=h.at (i:=i) (j:=c) Oo Oo;have i1:(i:Int)<8:=Oo;have i2:(o:Int)<8:=Oo;have i3:(n:Int)<20:=Oo;have i4:(c:Int)<20:=Oo;have S1:=ay (K i n Oo eA);have S2:=ay (K i c Oo Oo);have S3:=ay (K o n Oo eA);have S4:=ay (K o c Oo Oo);clear K;have I:Hh (Cov.before C B n c i o=if C i n / C i c-C o n / C o c=0 then oD (B i<B o) else oD (C i n / C i c-C o n / C o c<0)):=by
  show Cov.before C B n c i o=_;unfold Cov.before;by_cases e:C i n / C i c=C o n / C o c;rw[fE e,fE Rr];rw[fF e,fF Rr];congr 1;exact propext ⟨λ_=>Rr,λ_=>Rr⟩
 have d1:=h.g.bas i hi;have Q1:=ay (show Sm _ (C i n / C i c)by rw[pG];exact S1.o.mul (Sm.inv S2 b7));have Q2:=ay (show Sm _ (C o n / C o c)by rw[pG];exact S3.o.mul (Sm.inv S4 b8));go_enter func240,ntmps240;go_wp2_with fail;go_cut [9] (λv wc=>qDI w wc v (C i n / C i c))
 case first=>
  go_region_held3 (λw'=>aC w' k 1 (ai n)/\aC w' k (2+i*40+n*2) (ai (C i n).num)/\aC w' k (2+i*40+n*2+1) (ai (C i n).den)/\aC w' k (2+i*40+c*2) (ai (C i c).num)/\aC w' k (2+i*40+c*2+1) (ai (C i c).den))
   (first|exact h.drew.five Oo (Oo)|exact(h.drew.zz hb).five Oo (Oo)|exact((h.drew.zz hb).alloc _).five Oo (Oo)|exact(h.alloc _).drew.five Oo (Oo)|exact((h.alloc _).drew.zz hb).five Oo (Oo)|exact((((h.alloc _).drew.zz hb).far _ Oo).far _ Oo).five Oo Oo)
   (first|go_at_call 282;apply (qDR _ _ S1.o S2.o Dd b7).mn;intro w' hb;have⟨O,d2⟩:=xi hb;have a8:=hb.size;simp at a8)
  all_goals(go_wp2;go_meet)
  all_goals first
   |exact Yk (eB.drew.trans hb)
   |exact Kc (u:=ai 0) (v:=ai 0) (Below.trans (aK).drew (hb.mono Ss)) eA (by simp[O,go_sem]) (by simp[O,go_sem])
 case rest=>
  obtain⟨p1,rfl,b9,c7,e2,c8,c9⟩:=hcut;have V:=h.zz c9;have d3:=V.lt;clear a1 a2 a3 a4 M;obtain⟨wo,rfl⟩:=Ex wc;go_wp2_with fail;go_cut [10] (λv wd=>qDI wo wd v (C o n / C o c))
  case first=>
   have M:=V.g.cols;have⟨b1,b2⟩:=V.at (i:=o) (j:=n) Oo Oo;have⟨b3,b4⟩:=V.at (i:=o) (j:=c) Oo Oo;go_region_held3 (λw'=>aC w' k 1 (ai n)/\aC w' k (2+o*40+n*2) (ai (C o n).num)/\aC w' k (2+o*40+n*2+1) (ai (C o n).den)/\aC w' k (2+o*40+c*2) (ai (C o c).num)/\aC w' k (2+o*40+c*2+1) (ai (C o c).den))
    (first|exact V.drew.five Oo (Oo)|exact(V.drew.zz hb).five Oo (Oo)|exact((V.drew.zz hb).alloc _).five Oo (Oo)|exact(V.alloc _).drew.five Oo (Oo)|exact((V.alloc _).drew.zz hb).five Oo (Oo)|exact((((V.alloc _).drew.zz hb).far _ Oo).far _ Oo).five Oo Oo)
    (first|go_at_call 282;apply (qDR _ _ S3.o S4.o Dd b8).mn;intro w' hb;have⟨O,d2⟩:=xi hb;have a8:=hb.size;simp at a8)
   all_goals(go_wp2;go_meet)
   all_goals first
    |exact Yk (eB.drew.trans hb)
    |exact Kc (u:=ai 0) (v:=ai 0) (Below.trans (aK).drew (hb.mono Ss)) eA (by simp[O,go_sem]) (by simp[O,go_sem])
  case rest=>
   obtain⟨p2,rfl,e3,e4,e5,e6,a5⟩:=hcut;have d6:=(a5.cell c8).trans b9;have d7:=(a5.cell c8).trans c7;have h2:=V.zz a5;have d8:=h2.g.bas i hi;have d9:=h2.g.bas o ho;clear b9 c7 d1;have d0:=bt c9 a5;have d4:=h2.lt;by_cases hq:C i n / C i c-C o n / C o c=0
   .have hs:(sgR (C i n / C i c-C o n / C o c) != 0)=false:=by rw[uZ hq];decide
    have a9:Hh (Cov.before C B n c i o=oD (B i<B o)):=by
     show _=_;rw[I.o,fE hq]
    clear I hq;go_wp2_with fail;apply (Ys _ _ Q1.o Q2.o Dd).mn;intro w4 a6;go_wp2_with fail;apply (jB _).mn;intro w5 a7;have h5:=(h2.zz a6).zz a7;have e0:=h5.g.bas i hi;have e1:=h5.g.bas o ho;go_wp2_with fail;go_quiet (fail)
    go_wp2;go_ret;refine⟨?_,below_drewN (bt d0 (bt a6 a7)) _⟩;rw[a9.o];congr 2
   have hs:(sgR (C i n / C i c-C o n / C o c) != 0):=by
    by_cases e:C i n / C i c-C o n / C o c<0;rw[uX e];decide;rw[uY Rr];decide
   have a9:Hh (Cov.before C B n c i o=oD (sgR (C i n / C i c-C o n / C o c)<0)):=by
    show _=_;rw[I.o,fF hq];by_cases e:C i n / C i c-C o n / C o c<0;rw[uX e];simpa using e;rw[uY Rr];simpa using e
   clear I hq;go_wp2_with fail;apply (Ys _ _ Q1.o Q2.o Dd).mn;intro w4 a6;go_wp2_with fail;apply (jB _).mn;intro w5 a7;go_wp2;go_ret;refine⟨?_,bt d0 (bt a6 a7)⟩;rw[a9.o];rfl
def Km{p}c(I:c<0):
 aG 219 #[p,ai c] w (ai (-1)):=by
 go_enter func219,ntmps219;go_wp2;go_ret;exact⟨rfl,eB⟩
def Kn k m n(h:SxAt w k m n C B bar)c(hc:c<n)(a7:∀a b,a<=m->b<=n->Sm 41000 (C a b)):
 aG 219 #[pZ k 0,ai c] w (ai (Cov.idx (Cov.best (λi=>oD (0<C i c)) (Cov.before C B n c) m))):=by
 have hn:=h.g.nle;have hm:=h.g.mle;have a9:=h.g.x;change Hh _ at a7;obtain⟨I,O⟩:=Ex (Cov.best _ _);have a4:Hh (∀i,I (i+1)=match I i with|none=>if oD (0<C i c) then Q i else wH|some b=>if oD (0<C i c)&&Cov.before C B n c i b then Q i else Q b):=by
  intro i;rw[O];rfl
 have a5:Hh (∀i b,I i=Q b->b<i/\0<C b c):=by
  intro i b hb;rw[O]at hb;obtain⟨h1,h2,_⟩:=Cov.best_some hb;exact⟨h1,h2⟩
 have hzero:Hh (I 0=wH):=by rw[O];exact rfl
 rw[<-O];clear O;have i2:(c:Int)<20:=Oo;have i0:¬((c:Int)<0):=Oo;go_enter func219,ntmps219;go_wp2;go_loopw [5,14] (λt u wr=>∃i:Nat,i<=m/\u=ai i/\t=ai (Cov.idx (I i))/\Bl w wr) (λ_ u _=>m-(intOf u).toNat);exact⟨0,eC,rfl,by rw[hzero.o];rfl,eB⟩;obtain⟨i,hi,rfl,rfl,hK⟩:=hrel;have hS:=h.zz hK;by_cases a8:i<m
 .have i3:=aV a8;have i4:(i:Int)<8:=Oo;obtain⟨a1,a2⟩:=hS.at (j:=c) Oo Oo;have hst:=ay (a4 i);by_cases hp:0<C i c
  .have hg:(0:Int)<sgR (C i c):=by rw[uY hp];decide
   have HP:=ay hp;cases hb:I i with
   |none=>
    have K:Hh (I (i+1)=Q i):=by
     show _=_;rw[hst.o,hb];simp only[HP.o,decide_true,nI]
    have e0:Cov.idx (I i)=-1:=by rw[hb];rfl
    rw[<-hb,e0];clear hb e0 hp;go_wp2_with (go_at_call 183;apply (jB (C i c)).mono;rintro e w' ⟨rfl,M⟩);go_roundw;exact⟨i+1,Oo,Gg,by rw[K.o];rfl,bt hK M⟩;exact Im
   |some b=>
    obtain⟨b7,b1⟩:=a5 i b hb;change Hh _ at hb;have e0:Cov.idx (I i)=(b:Int):=by rw[hb];rfl
    rw[<-hb,e0];clear e0;have j1:¬((b:Int)<0):=Oo;have V:C i c≠0:=Rr;have a3:C b c≠0:=Rr;clear hp b1;cases hbf:Cov.before C B n c i b with
    |true=>
     have K:Hh (I (i+1)=Q i):=by
      show _=_;rw[hst.o,hb.o];simp only[HP.o,decide_true,dG];rw[hbf];rfl
     have HF:=ay hbf;clear hbf;go_wp2_with fail;apply (jB (C i c)).mn;intro w1 M;go_wp2_with fail;apply (jG k m n C B (hS.zz M) i b c a8 Oo hc V a3 a7.o).mn;intro w2 a6;rw[HF.o];go_wp2;go_roundw;exact⟨i+1,Oo,Gg,by rw[K.o];rfl,bt hK (bt M a6)⟩;exact Im
    |false=>
     have K:Hh (I (i+1)=Q b):=by
      show _=_;rw[hst.o,hb.o];simp only[HP.o,decide_true,Bool.true_and];rw[hbf];rfl
     have HF:=ay hbf;clear hbf;go_wp2_with fail;apply (jB (C i c)).mn;intro w1 M;go_wp2_with fail;apply (jG k m n C B (hS.zz M) i b c a8 Oo hc V a3 a7.o).mn;intro w2 a6;rw[HF.o];go_wp2;go_roundw;exact⟨i+1,Oo,Gg,by rw[K.o];rfl,bt hK (bt M a6)⟩;exact Im
  have hg:oD ((0:Int)<sgR (C i c))=false:=by
   by_cases e:C i c<0;rw[uX e];decide;rw[uZ Rr];decide
  have K:Hh (I (i+1)=I i):=by
   show _=_;rw[hst.o];cases I i <;> simp[hp]
  clear hp;go_wp2_with (go_at_call 183;apply (jB (C i c)).mono;rintro e w' ⟨rfl,M⟩);go_roundw;exact⟨i+1,Oo,Gg,by rw[K.o],bt hK M⟩;exact Im
 obtain rfl:i=m:=Oo;go_wp2;go_ret;exact⟨rfl,hK⟩
def Vo n w:
 aG 215 #[ai n] w (aQ #[ai (n:Rat).num,ai (n:Rat).den]):=by
 go_enter func215,ntmps215;go_wp2_with fail;apply (qIq 0 0 n).mn;intro w1 hb;have⟨I,K⟩:=xi hb;have c0:aC w1 (J w.1) 0 (ai 0):=(I _ 0 Sy).trans Sg;have c1:aC w1 (J w.1) 1 (ai 0):=(I _ 1 Sy).trans Sg;have f0:w1.frozen? (az (J w.1) 0)=false:=(K _ 0 Sy).trans Sg;have f1:w1.frozen? (az (J w.1) 1)=false:=(K _ 1 Sy).trans Sg;go_wp2;refine aU (by simp[results,results215,go_sem,c0,c1]) rfl ⟨rfl,?_⟩;exact((below_alloc2 hb).setCell eA _).setCell eA _
structure ArrAt(w:oX)(k N:Nat)(f:Nat->oV):Prop where
 cell:∀j,j<N->eQ w (az k j)=Q (f j)
 L:∀j,j<N->w.frozen? (az k j)=nF
def zL(N:Nat)(f:Nat->oV):LV:=(range N).map f
def jA N f:E (zL N f)=N:=by simp[zL]
def Ki{f}(I:j<N):(zL N f)[j]?=Q (f j):=by
 unfold zL;rw[bK,nV I];rfl
def ArrAt.range{f}(h:ArrAt w k N f):w.rangeAt k 0 (zL N f):=by
 intro j v hv;have I:j<N:=by rw[<-jA N f];exact(pR.1 hv).1
 rw[Ki I]at hv;simp only[oI]at hv;rw[cU,h.cell j I,hv]
def ArrAt.there{f}(h:ArrAt w k N f):w.there k 0 N:=by
 intro j I;rw[cU,h.cell j I];exact⟨rfl,h.L j I⟩
def ArrAt.set{f}(h:ArrAt w k N f)(hi:i<N)v:ArrAt (sW w (az k i) v) k N (λj=>if j=i then v else f j):=by
 refine⟨λj I=>?_,λj I=>by rw[fS];exact h.L j I⟩;by_cases e:j=i;subst e;rw[fE rfl];exact eJ (h.cell j I);rw[fF e,eE (by intro K;simp only[aI]at K;omega)];exact h.cell j I
def ArrAt.lt{f}(h:ArrAt w k N f)(I:0<N):k<J w.1:=bL w _ (h.cell 0 I)
def ArrAt.A{f}(h:ArrAt w k N f)(hb:w'.1[k]?=w.1[k]?):ArrAt w' k N f:=
 ⟨λj I=>(bF hb).trans (h.cell j I),λj I=>(dA hb).trans (h.L j I)⟩
def qj(w:oX)N f t:ArrAt (S w (eZ (zL N f).toArray t)) (J w.1) N f:=by
 have hb:=dZ w (eZ (zL N f).toArray t);refine⟨λj I=>?_,λj I=>?_⟩;rw[eI hb];simpa using Ki I;unfold World.frozen?;rw[hb];simp
def xh(a b:Nat)(v:Int)(j:Nat):Int:=if a<=j/\j<b then v else 0
def qR(a b:Nat)(v:Int):LV:=zL 20 (λj=>ai (xh a b v j))
def Yn:(Tryz.prog.info? 255).map (·.size)=Q 20:=Kl
def qBp w:(Instr.alloc 255 true (.tuple #[])).run wD w=.ok (pZ (J w.1) 0) (S w (eZ (zL 20 (λ_=>ai 0)).toArray 255)):=Kl
def qDM{op:Oper}{a}{K:Act->WP}{iQ:Exit->Act->WP}(ho:op.op=.alloc 255)
 (h:K (a.put op.dst (pZ (J w.1) 0)) (S w (eZ (zL 20 (λ_=>ai 0)).toArray 255))):op.wp wD a w K iQ:=by
 unfold Oper.wp execOp;simp only[ho,Sem.run_bind,Sem.run_pure,Result.andThen_ok,qBp];exact h
def QR{ops rest op a}{iQ:Exit->Act->WP}(I:op.guard=wH)(ho:op.op=.alloc 255)
 (h:wpList wD ops iQ rest (a.put op.dst (pZ (J w.1) 0)) (S w (eZ (zL 20 (λ_=>ai 0)).toArray 255))):wpList wD ops iQ (op::rest) a w:=
 wpList_plain I λ_ K=>qDM ho (K _ _ h)
end Go.Proofs.YtfpjpngjikdaoaaGreat
namespace Go.Proofs.YtfpjpngjikdaoaaGreat
open Go.Proofs.Tryz Go.RowKit
variable {a l x:LI}{N b i j k m n o g p r I:Nat}{bar:NB}{B:NN}{C:NQ}{v vl vv vr:oV}{w w' wr w1 w2 W W':oX}{cost:Nat->Int}
section
variable {w:oX} {k m n:Nat} {C:NQ} {B:NN} {bar:NB}
def cellsOf(w:oX)(k:Nat):LV:=(range 350).map λo=>(eQ w (az k o)).getD undef
def yD w k:E (cellsOf w k)=350:=by simp[cellsOf]
def Xl(h:SxAt w k m n C B bar)(ho:o<350):(cellsOf w k)[o]?=eQ w (az k o):=by
 have⟨v,K,_⟩:=h.g.one o ho;have I:=K;unfold cellsOf;rw[bK,getElem?_range ho];simp[I]
def jS(h:SxAt w k m n C B bar):w.rangeAt k 0 (cellsOf w k):=by
 intro j v hv;have I:j<350:=by rw[<-yD w k];exact(List.getElem?_eq_some_iff.1 hv).1
 rw[Xl h I]at hv;rw[cU];exact hv
def IsSx(V:AV)(m n:Nat)(C:NQ)(B:NN)(bar:NB):Prop:=V.size=350/\Lay (λo=>V[o]?) m n C B bar
def Vs(h:SxAt w k m n C B bar):IsSx (cellsOf w k).toArray m n C B bar:=by
 have I:∀o,o<350->(cellsOf w k).toArray[o]?=eQ w (az k o):=λo ho=>by simpa using Xl h ho
 have M:=h.g.mle;have O:=h.g.nle;refine⟨by simp[yD],⟨?_,?_,λi j hi K=>?_,λi j hi K=>?_,λi hi=>?_,λj K=>?_,λo ho=>?_,M,O⟩⟩;show _=_;rw[I 0 Oo];exact h.g.x;show _=_;rw[I 1 Oo];exact h.g.cols;show _=_;rw[I _ Oo];exact h.g.num i j hi K;show _=_;rw[I _ Oo];exact h.g.den i j hi K;show _=_;rw[I _ Oo];exact h.g.bas i hi;show _=_;rw[I _ Oo];exact h.g.bars j K;have⟨v,V,h2⟩:=h.g.one o ho;exact⟨v,(I o ho).trans V,h2⟩
def IsSx.one{V}(h:IsSx V m n C B bar):V.all (·.oneCell'):=by
 rw[sR];intro v hv;have⟨j,M,e⟩:=Array.mem_iff_getElem.1 hv
 have⟨u,O,h2⟩:=h.2.one j (by rw[<-h.1];exact M);have I:=O;rw[dC M,e]at I;simp only[oI]at I;rw[I];exact h2
def IsSx.stored{V}(h:IsSx V m n C B bar)(M:w.there b 0 350):SxAt (w.setCells b 0 V.toList) b m n C B bar:=by
 have hl:E V.toList=350:=by simpa using h.1
 have I:∀o,o<350->∀v,V[o]?=Q v->aC (w.setCells b 0 V.toList) b o v:=λo _ v hv=>by
  have:=(tR w b 0 V.toList (by rw[hl];exact M)) o v (by simpa using hv);rwa[cU]at this
 have hm:=h.2.mle;have hn:=h.2.nle;refine⟨⟨I 0 Oo _ h.2.x,I 1 Oo _ h.2.cols,λi j hi K=>I _ Oo _ (h.2.num i j hi K),λi j hi K=>I _ Oo _ (h.2.den i j hi K),λi hi=>I _ Oo _ (h.2.bas i hi),λj K=>I _ Oo _ (h.2.bars j K),λo ho=>?_,hm,hn⟩,λo ho=>?_⟩;have⟨v,h1,h2⟩:=h.2.one o ho;exact⟨v,I o ho v h1,h2⟩;have:=(tT M b 0 V.toList o ho).2;rwa[cU]at this
def SxAt.setBas(h:SxAt w k m n C B bar)(hi:i<m)b:SxAt (sW w (az k (322+i)) (ai (b:Nat))) k m n C (λK=>if K=i then b else B K) bar:=by
 have hn:=h.g.nle;have hm:=h.g.mle;have I:∀o,o≠322+i->eQ (sC w k (322+i) (ai (b:Nat))) (az k o)=eQ w (az k o):=λo ho=>
  eE Nq
 have M:aC (sC w k (322+i) (ai (b:Nat))) k (322+i) (ai (b:Nat)):=eJ (h.g.bas i hi);refine⟨⟨?_,?_,λK j' O V=>?_,λK j' O V=>?_,λK O=>?_,λj' V=>?_,λo ho=>?_,hm,hn⟩,λo ho=>by rw[fS];exact h.L o ho⟩;show World.cell? _ (az k 0)=_;rw[I 0 Oo];exact h.g.x;show World.cell? _ (az k 1)=_;rw[I 1 Oo];exact h.g.cols;show World.cell? _ (az k (2+K*40+j'*2))=_;rw[I _ Oo];exact h.g.num K _ O V;show World.cell? _ (az k (2+K*40+j'*2+1))=_;rw[I _ Oo];exact h.g.den K _ O V
 .show World.cell? _ (az k (322+K))=_;by_cases e:K=i;subst e;rw[M,fE rfl];rw[I _ Oo,fF e];exact h.g.bas K O
 show World.cell? _ (az k (330+j'))=_;rw[I _ Oo];exact h.g.bars _ V;by_cases e:o=322+i;subst e;exact⟨_,M,rfl⟩;have⟨v,h1,h2⟩:=h.g.one o ho;exact⟨v,(I o e).trans h1,h2⟩
end
def yd{a}(hb:N<=b):∀(vs:LV) (o:Nat) (w:oX),Below N a w->Below N a (w.setCells b o vs)
 |[],_,_,h=>h
 |v::r,o,w,h=>by
  rw[setCells];exact yd hb r (o+1) _ (h.setCell hb v)
def Xe{P fn}{p:Tmp}{ty}(h:fn.results=#[.cell p ty]){tmps:AV}{cs:LV}{d}
 (K:tmps.getD p undef=pZ g 0) (M:w.rangeAt g 0 cs) (O:P.underlying ty=Q d) (hd:d.isRow) (hi:(P.info? ty).map (·.size)=Q (E cs)):
 (results fn tmps).run P w=.ok (aQ cs.toArray) w:=by
 have I:tmps[p]?.getD undef=pZ g 0:=by simpa using K
 simp[results,h,I,asAddr,run_loadVar_mid w g 0 ty cs d M O hd hi]
def xl w(a b:Nat)v(hb:b<=20):
 aG 216 #[ai a,ai b,ai v] w (aQ (qR a b v).toArray):=by
 go_enter func216,ntmps216;go_wp2_with (refine QR rfl rfl ?_);have h1:=qj (S w (eZ (zL 20 (λ_=>ai 0)).toArray 255)) 20 (λ_=>ai 0) 255;have M:(S (S w (eZ (zL 20 (λ_=>ai 0)).toArray 255)) (eZ (zL 20 (λ_=>ai 0)).toArray 255)).there (J w.1) 0 20:=there_alloc (qj w 20 (λ_=>ai 0) 255).there _;rw[show J (S w (eZ (zL 20 (λ_=>ai 0)).toArray 255)).1=J w.1+1 by simp]at h1;have O:Bl w (S (S w (eZ (zL 20 (λ_=>ai 0)).toArray 255)) (eZ (zL 20 (λ_=>ai 0)).toArray 255)):=(aK).alloc Ss _;generalize S (S w (eZ (zL 20 (λ_=>ai 0)).toArray 255)) (eZ (zL 20 (λ_=>ai 0)).toArray 255)=W at *;go_loopw [8] (λt wr=>∃j:Nat,a<=j/\(j<=b\/j=a)/\t=ai j/\Bl w wr/\wr.there (J w.1) 0 20/\ArrAt wr (J w.1+1) 20 (λi=>ai (xh a j v i))) (mZ b);exact⟨a,eA,.inr rfl,rfl,O,M,⟨λj hj=>(h1.cell j hj).trans (by unfold xh;rw[fF Oo]),h1.L⟩⟩;obtain⟨j,hj,hjb,rfl,V,a3,I⟩:=hrel;clear O M h1;by_cases a5:j<b
 .have i1:=aV a5;have i2:(j:Int)<20:=Oo;have c1:=I.cell j Oo;have f1:=I.L j Oo;go_wp2;go_roundw
  case rel=>
   refine⟨j+1,Oo,Oo,Gg,V.setCell Ss _,tT a3 (J w.1+1) j [ai v],⟨λi hi=>((I.set Oo _).cell i hi).trans ?_,(I.set Oo _).L⟩⟩;unfold xh;by_cases e:i=j;rw[fE e,fE Oo];rw[fF e];by_cases e2:a<=i/\i<j;rw[fE e2,fE Oo];rw[fF e2,fF Oo]
  case measure=>exact Im
 have i1:¬((j:Int)<b):=Oo;have K:(zL 20 (λi=>ai (xh a j v i)))=qR a b v:=by
  unfold qR zL;refine cV (λi hi=>?_);unfold xh;by_cases e:a<=i/\i<j;rw[fE e,fE Oo];rw[fF e,fF Oo]
 have HR:Hh (wr.rangeAt (J w.1+1) 0 (qR a b v)):=by rw[<-K];exact I.range
 have hlen:E (qR a b v)=20:=jA _ _;have HT:Hh (wr.there (J w.1) 0 (qR a b v).toArray.size):=by
  rw[show(qR a b v).toArray.size=20 by simpa using hlen];exact a3
 have HI:Hh ((Tryz.prog.info? 255).map (·.size)=Q (E (qR a b v))):=by
  show _=_;rw[hlen];exact Yn
 have HJ:Hh ((Tryz.prog.info? 255).map (·.size)=Q (qR a b v).toArray.size):=by
  show _=_;rw[show(qR a b v).toArray.size=20 by simpa using hlen];exact Yn
 have HO:Hh ((qR a b v).toArray.all (·.oneCell')):=all_oneCell_toArray (λu hu=>by
  obtain⟨i,_,rfl⟩:=cC.1 hu;rfl)
 clear K;generalize hcz:qR a b v=cz at *;go_wp2_with (first|refine tE rfl 255 _ rfl _ 0 Fl cz _ HR underlying255 Fl HI ?_|refine tC rfl 255 _ _ rfl _ 0 _ Fl Fl HT HJ HO ?_);have a4:(wr.setCells (J w.1) 0 cz.toArray.toList).rangeAt (J w.1) 0 cz:=by
  have:=tR wr (J w.1) 0 cz.toArray.toList (by have:=HT.o;simpa using this);simpa using this
 refine aU (Xe results216 Fl a4 underlying255 Fl HI) rfl ⟨rfl,yd eA _ _ _ V⟩
def part(cost:Nat->Int)(C:NQ)(B:NN)(j i:Nat):Rat:=((cost j:Int):Rat)-Cov.sm i (λi'=>((cost (B i'):Int):Rat)*C i' j)
def kG(cost:Nat->Int)(C:NQ)(B:NN)(m j:Nat):NQ:=λa b=>if a=m/\b<j then part cost C B b m else C a b
def qER(h:cost (B i)=0):part cost C B j (i+1)=part cost C B j i:=by
 unfold part;show _-(Cov.sm i _+((cost (B i):Int):Rat)*C i j)=_;rw[h];have:((0:Int):Rat)=0:=rfl;rw[this];grind
def qES:part cost C B j (i+1)=part cost C B j i-C i j*((cost (B i):Int):Rat):=by
 unfold part;show _-(Cov.sm i _+((cost (B i):Int):Rat)*C i j)=_;grind
def qIr{n}(h:n.natAbs<=1):Sm 1 ((n:Int):Rat):=by
 refine⟨?_,?_⟩;simpa using h;simp
def Kb.z(h:Kb k w w'){a}(K:J w.1<=a)o v:Kb k w (sW w' (az a o) v):=
 ⟨h.os,h.tape,h.output,by simpa[World.setCell]using h.size,λb hb I=>(eG Sy).trans (h.block b hb I)⟩
def Kb.P{a b}(h:Kb k w a)(g:Bl a b):Kb k w b:=h.trans (Kb.zu g)
structure RatAt(w:oX)(p:Nat)(q:Rat):Prop where
 num:eQ w (az p 0)=Q (ai q.num)
 den:eQ w (az p 1)=Q (ai q.den)
 f0:w.frozen? (az p 0)=nF
 f1:w.frozen? (az p 1)=nF
def RatAt.set{q}(h:RatAt w p q)r:RatAt (sW (sW w (az p 0) (ai r.num)) (az p 1) (ai r.den)) p r:=
 ⟨by rw[eE Ss,eJ h.num],eJ (by rw[eE Ss];exact h.den),
  by rw[fS,fS];exact h.f0,by rw[fS,fS];exact h.f1⟩
def qBv(w:oX)q t:RatAt (S w (eZ #[ai q.num,ai q.den] t)) (J w.1) q:=
 ⟨Sg,Sg,Sg,Sg⟩
def ArrAt.zz{f}(h:ArrAt w k N f)(I:0<N)(hb:Bl w w'):ArrAt w' k N f:=h.A (hb.block k (h.lt I))
def Kt(w:oX)c t:RatAt (S w (eZ #[ai c,ai 1] t)) (J w.1) (c:Rat):=qBv w c t
def yX n:
 aG 215 #[ai n] w (aQ #[ai n,ai 1]):=Vo n w
def qIs{p}{c:Int}{B C}(I:Sm B p)(hq:Sm C (c:Rat))(h:B*C<=4500000000000000000):
 aG 283 #[aQ #[ai p.num,ai p.den],aQ #[ai c,ai 1]] w (aQ #[ai (p*(c:Rat)).num,ai (p*(c:Rat)).den]):=qEP p _ w I hq h
structure PrC(w wr:oX)(k m n:Nat)(C:NQ)(B:NN)(bar:NB)(cost:Nat->Int):Prop where
 kb:Kb k w wr
 sx:SxAt wr k m n C B bar
 ar:ArrAt wr (J w.1) 20 (λj=>ai (cost j))
def PrC.zz(h:PrC w wr k m n C B bar cost)(hb:Bl wr w'):PrC w w' k m n C B bar cost:=
 ⟨h.kb.P hb,h.sx.zz hb,h.ar.zz Oo hb⟩
def PrC.alloc(h:PrC w wr k m n C B bar cost)o:PrC w (S wr o) k m n C B bar cost:=
 h.zz (aK)
def PrC.z(h:PrC w wr k m n C B bar cost){a}v(I:J w.1<a)(K:k<J w.1):PrC w (sW wr (az a o) v) k m n C B bar cost:=
 ⟨h.kb.z Oo _ _,h.sx.far _ Oo,h.ar.A (eG Sy)⟩
def qBw w k m n bar(h:SxAt w k m n C B bar)(K:∀j,(cost j).natAbs<=1)(d5:∀i,i<m->B i<n)
 (d6:∀a b,a<=m->b<=n->Sm 41000 (C a b)) (M:∀j i,j<=n->i<=m->Sm 41000 (part cost C B j i)):
 aF 217 #[pZ k 0,aQ (zL 20 (λj=>ai (cost j))).toArray] w (.tuple #[]) λw'=>Kb k w w'/\SxAt w' k m n (kG cost C B m (n+1)) B bar:=by
 have hn:=h.g.nle;have hm:=h.g.mle;have a7:=h.lt;change Hh _ at d6 M K d5;go_enter func217,ntmps217;go_upto_region 1 with fail;have O:PrC w (S w (eZ (zL 20 (λj=>ai (cost j))).toArray 255)) k m n C B bar cost:=⟨Kb.zu aK,h.alloc _,qj w _ _ _⟩;generalize S w (eZ (zL 20 (λj=>ai (cost j))).toArray 255)=W at *;have a9:=O.sx.g.cols;go_wp2;go_loopw [13] (λt wr=>∃j:Nat,j<=n+1/\t=ai j/\PrC w wr k m n (kG cost C B m j) B bar cost) (mZ (n+1));exact⟨0,eC,rfl,O.kb,O.sx.V (λ_ _ _ _=>fF Oo) (λ_ _=>rfl) (λ_ _=>rfl),O.ar⟩;obtain⟨j,hj,rfl,hP⟩:=hrel;clear O a9;by_cases g5:j<n+1
 .have i1:(j:Int)<n+1:=Oo;have i2:(j:Int)<20:=Oo;have c1:=hP.ar.cell j Oo;go_wp2_with fail;apply (yX (cost j)).mn;intro w1 b7;have b8:=(hP.zz b7).alloc (eZ #[ai (cost j),ai 1] 212);have d7:=Kt w1 (cost j) 212;have a8:=bN (hP.ar.lt Oo) b7.size;clear hP c1;go_upto_region 5 with fail;generalize hp:J w1.1=p,S w1 (eZ #[ai (cost j),ai 1] 212)=W1 at *;clear hp b7;clear w1;have b9:=b8.sx.g.x;obtain⟨wo,rfl⟩:=Ex W1;go_wp2;go_loopw [24] (λt wi=>∃i:Nat,i<=m/\t=ai i/\PrC w wi k m n (kG cost C B m j) B bar cost/\RatAt wi p (part cost C B j i)) (mZ m);exact⟨0,eC,rfl,b8,by unfold part;rw[show((cost j:Int):Rat)-Cov.sm 0 (λi'=>((cost (B i'):Int):Rat)*C i' j)=((cost j:Int):Rat)by show _-(0:Rat)=_;grind];exact d7⟩;obtain⟨i,hi,rfl,I,a5⟩:=hrel;clear b8 d7 b9;by_cases c7:i<m
  .have i3:=aV c7;have i4:(i:Int)<8:=Oo;have g6:=d5 i c7;have i5:((B i:Nat):Int)<20:=Oo;have b1:=I.sx.g.bas i c7;have b2:=I.ar.cell (B i) Oo;by_cases hz:cost (B i)=0
   .have e0:(cost (B i) != 0)=false:=by simpa using hz
    have HZ:=ay hz;clear hz;go_wp2;go_roundw;exact⟨i+1,Oo,Gg,I,by rw[qER HZ.o];exact a5⟩;exact Im
   have e0:(cost (B i) != 0):=by simpa using hz
   have⟨r1,r2,r3,r4⟩:=a5;have a1:=I.sx.g.num i j Oo Oo;have a2:=I.sx.g.den i j Oo Oo;rw[show kG cost C B m j i j=C i j from fF Oo]at a1 a2;have X1:=ay (d6 i j Oo Oo);have X2:=ay (qIr (K (B i)));have d8:=I.sx.lt;have V:p<J wr.1:=bL _ _ r1;clear hz b1 b2;have b1:=I.sx.g.bas i c7;have b2:=I.ar.cell (B i) Oo;go_upto_region 10 with fail;clear b1 b2;go_region_with (first|go_at_call 215;apply (yX (cost (B i))).mono;rintro e wA ⟨rfl,c8⟩;have⟨a3,c9⟩:=xi c8;have a4:=bN V c8.size;have g7:=(a3 k _ d8).trans a1;have g8:=(a3 k _ d8).trans a2;have e1:=(a3 p 0 V).trans r1;have e3:=(a3 p 1 V).trans r2;have e4:=(c9 p 0 V).trans r3;have e5:=(c9 p 1 V).trans r4;clear a3 c9|go_at_call 283;apply (qIs X1.o X2.o Dd).mn;intro wB d0;have⟨d1,d2⟩:=xi d0;have a6:=bN a4 d0.size;have e6:=(d1 p 0 a4).trans e1;have e7:=(d1 p 1 a4).trans e3;have e8:=(d2 p 0 a4).trans e4;have e9:=(d2 p 1 a4).trans e5;clear d1 d2|go_at_call 182;refine(Ys _ _ (M j i Oo Oo) (X1.o.mul X2) Dd).mn ?_;intro wC d9;have⟨d3,d4⟩:=xi d9;have q0:=(d3 p 0 a6).trans e6;have q1:=(d3 p 1 a6).trans e7;have q2:=(d4 p 0 a6).trans e8;have q3:=(d4 p 1 a6).trans e9;clear d3 d4)
   all_goals
    go_wp2
    go_roundw;exact⟨i+1,Oo,Gg,((I.zz (bt (bt (eB.drew.trans c8) d0) d9)).z (o:=0) (ai (part cost C B j i-C i j*(cost _)).num) a8 a7).z (o:=1) (ai (part cost C B j i-C i j*(cost _)).den) a8 a7,by rw[qES];exact (RatAt.mk q0 q1 q2 q3).set (part cost C B j i-C i j*(cost _))⟩;exact Im
  obtain rfl:i=m:=Oo;have i3:=aY i;have g4:=I.sx.g.x;have a1:=I.sx.g.num i j Oo Oo;have a2:=I.sx.g.den i j Oo Oo;have g1:wr.frozen? (az k (2+i*40+j*2))=false:=I.sx.L _ Oo;have g2:wr.frozen? (az k (2+i*40+j*2+1))=false:=I.sx.L _ Oo;have i6:(i:Int)<8:=Oo;have r1:=a5.num;have r2:=a5.den;go_upto_region 12 with fail;go_region
  go_wp2;go_roundw
  case rel=>
   refine⟨j+1,Oo,Gg,?_,?_,?_⟩;exact((I.kb.set _ _).set _ _).drew
   .refine((I.sx.setNum eA (show j<=n by omega) _).V (λa b _ _=>?_) (λ_ _=>rfl) (λ_ _=>rfl)).drew;unfold kG;by_cases e:a=i/\b=j;rw[fE e,fE Oo,e.2];rw[fF e];by_cases e2:a=i/\b<j;rw[fE e2,fE Oo];rw[fF e2,fF Oo]
   exact I.ar.A (by show((wr.setCell _ _).setCell _ _).1[J w.1]?=_;rw[eG Sy,eG Sy])
  case measure=>exact Im
 obtain rfl:j=n+1:=Oo;have i1:¬((n:Int)+1<(n:Int)+1):=Oo;go_wp2;go_end0
 exact⟨rfl,hP.kb,hP.sx⟩
def asV(f:Nat->Int):oV:=aQ #[ai (f 0),ai (f 1),ai (f 2),ai (f 3),ai (f 4),ai (f 5)]
def xR(l:LI)(f g:Nat->Int)(i:Nat):Int:=if (i:Int)∈l then g i else f i
def U1{f g}{v:Nat}(K:j<E l)(hv:U l j 0=(v:Int))i:xR (l.take (j+1)) f g i=if i=v then g v else xR (l.take j) f g i:=by
 have e:(i:Int)∈l.take (j+1)↔(i:Int)∈l.take j\/i=v:=by
  rw[tA,cF,gE K];rw[gD,gE K]at hv;have hv:l[j]=(v:Int):=hv;rw[hv];show _\/(i:Int)∈[(v:Int)]↔_;rw[cI,Int.ofNat_inj]
 unfold xR;by_cases h:i=v;rw[fE h,fE (e.2 (.inr h)),h];rw[fF h];by_cases I:(i:Int)∈l.take j;rw[fE I,fE (e.2 (.inl I))];rw[fF I,fF λM=>(e.1 M).elim I h]
def qFl(h:j<E l):U l j 0∈l:=by rw[gD,gE h];exact gM _
def six(f:Nat->Int)t:ArrAt (S w (eZ #[ai (f 0),ai (f 1),ai (f 2),ai (f 3),ai (f 4),ai (f 5)] t)) (J w.1) 6 λi=>ai (f i):=qj w 6 (λi=>ai (f i)) t
def Zl w f g l(h:IS w vl l)(hl:E l<=1000)(a6:∀y∈l,0<=y/\y<6):
 aG 168 #[asV f,asV g,vl] w (asV (xR l f g)):=by
 obtain⟨a,cap,rfl,hc⟩:=h;have⟨n,hn⟩:=Ex (E l);rw[<-hn]at hc hl |-;have⟨W3,O⟩:=Ex (S (S (aJ w #[ai (f 0),ai (f 1),ai (f 2),ai (f 3),ai (f 4),ai (f 5)] 140) (eZ #[ai (g 0),ai (g 1),ai (g 2),ai (g 3),ai (g 4),ai (g 5)] 140)) (eZ #[ai 0,ai 0,ai 0,ai 0,ai 0,ai 0] 140));have HX:Hh (Bl w W3/\ArrAt W3 (J w.1) 6 (λi=>ai (xR (l.take 0) f g i))/\ArrAt W3 (J w.1+1) 6 (λi=>ai (g i))/\ArrAt W3 (J w.1+2) 6 (λ_=>ai 0)):=(by
  have h0:=six (w:=w) f 140;have h1:=six (w:=aJ w #[ai (f 0),ai (f 1),ai (f 2),ai (f 3),ai (f 4),ai (f 5)] 140) g 140;have h2:=six (w:=S (aJ w #[ai (f 0),ai (f 1),ai (f 2),ai (f 3),ai (f 4),ai (f 5)] 140) (eZ #[ai (g 0),ai (g 1),ai (g 2),ai (g 3),ai (g 4),ai (g 5)] 140)) (λ_=>0) 140;rw[O];rw[aM]at h1;rw[aM,aM]at h2;refine⟨((aK).alloc Ss _).alloc Sy _,(h0.zz Oo aK).zz Oo aK,h1.zz Oo aK,h2⟩)
 change Hh _ at hc hn a6;unfold asV;go_enter func168,ntmps168;go_upto_region 1 with fail;rw[<-O];clear O;go_wp2;go_loopw [11] (λt wr=>∃j:Nat,j<=n/\t=ai j/\Hh (Bl w wr/\ArrAt wr (J w.1) 6 (λi=>ai (xR (l.take j) f g i))/\ArrAt wr (J w.1+1) 6 (λi=>ai (g i))/\ArrAt wr (J w.1+2) 6 (λ_=>ai 0))) (mZ n);exact⟨0,eC,rfl,HX⟩;clear HX;obtain⟨j,hj,rfl,HX⟩:=hrel;have⟨hB,K,hG,I⟩:=HX.o;by_cases V:j<n
 .have i1:=aV V;rcases hc.o with h0|⟨b,o,rfl,M⟩;omega;have c0:=M j V;have hy:=a6 _ (qFl (l:=l) (j:=j) (by rw[<-hn.o];exact V));obtain⟨v,hv⟩:∃v:Nat,U l j 0=(v:Int):=⟨(U l j 0).toNat,Oo⟩;rw[hv]at c0 hy;have v6:v<6:=Oo;have i2:=aV v6;have c1:=qF hB c0;have c2:=hG.cell v v6;have c3:=K.cell v v6;have f3:=K.L v v6;have HE:Hh (Bl w (sC wr (J w.1) v (ai (g v)))/\ArrAt (sC wr (J w.1) v (ai (g v))) (J w.1) 6 (λi=>ai (xR (l.take (j+1)) f g i))/\ArrAt (sC wr (J w.1) v (ai (g v))) (J w.1+1) 6 (λi=>ai (g i))/\ArrAt (sC wr (J w.1) v (ai (g v))) (J w.1+2) 6 (λ_=>ai 0)):=(by
   refine⟨hB.setCell eA _,?_,hG.A (eG (by show J w.1+1≠J w.1;omega)),I.A (eG (by show J w.1+2≠J w.1;omega))⟩;have h1:=K.set v6 (ai (g v));refine⟨λi hi=>(h1.cell i hi).trans ?_,h1.L⟩;rw[U1 (by rw[<-hn.o];exact V) hv];split <;> rfl)
  clear HX hB K hG I M c0 hv hy;go_wp2;go_roundw;exact⟨j+1,Oo,Gg,HE⟩;exact Im
 obtain rfl:j=n:=Oo;have i1:=aY j;rw[hn.o,tL]at K;have a0:=K.cell 0 Oo;have a1:=K.cell 1 Oo;have a2:=K.cell 2 Oo;have a3:=K.cell 3 Oo;have a4:=K.cell 4 Oo;have a5:=K.cell 5 Oo;have z0:=I.cell 0 Oo;have z1:=I.cell 1 Oo;have z2:=I.cell 2 Oo;have z3:=I.cell 3 Oo;have z4:=I.cell 4 Oo;have z5:=I.cell 5 Oo;have f0:=I.L 0 Oo;have f1:=I.L 1 Oo;have f2:=I.L 2 Oo;have f3:=I.L 3 Oo;have f4:=I.L 4 Oo;have f5:=I.L 5 Oo;change Hh _ at hB;clear K I hG HX;go_wp2;refine aU (v:=asV (xR l f g)) (by unfold asV;simp[results,results168,go_sem,z0,z1,z2,z3,z4,z5]) rfl ⟨rfl,?_⟩;have hz:J w.1<=J w.1+2:=Oo;exact(((((hB.o.setCell hz _).setCell hz _).setCell hz _).setCell hz _).setCell hz _).setCell hz _
def xS(l:LI)(f:Nat->Int):Nat->Int:=xR l (λ_=>0) f
def jq w f l(h:IS w vl l)(hl:E l<=1000)(a6:∀y∈l,0<=y/\y<6):
 aG 136 #[asV f,vl] w (asV (xS l f)):=by
 have⟨O,K⟩:=Ex (S (aJ w #[ai (f 0),ai (f 1),ai (f 2),ai (f 3),ai (f 4),ai (f 5)] 140) (eZ #[ai 0,ai 0,ai 0,ai 0,ai 0,ai 0] 140));have M:ArrAt O (J w.1) 6 λi=>ai (f i):=by
  rw[K];exact(six f _).zz Oo aK
 have I:ArrAt O (J w.1+1) 6 λ_=>ai 0:=by
  have h2:=six (w:=aJ w #[ai (f 0),ai (f 1),ai (f 2),ai (f 3),ai (f 4),ai (f 5)] 140) (λ_=>0) 140;rw[aM]at h2;rw[K];exact h2
 have hB:Bl w O:=by rw[K];exact(aK).alloc Ss _
 have HK:Hh (Cl 168 #[aQ #[ai 0,ai 0,ai 0,ai 0,ai 0,ai 0],aQ #[ai (f 0),ai (f 1),ai (f 2),ai (f 3),ai (f 4),ai (f 5)],vl] O λe w'=>e=rE (asV (xS l f))/\Bl O w'):=Zl O _ f l (h.zz hB) hl a6;have HZ:=ay I;change Hh _ at hB;have a0:=M.cell 0 Oo;have a1:=M.cell 1 Oo;have a2:=M.cell 2 Oo;have a3:=M.cell 3 Oo;have a4:=M.cell 4 Oo;have a5:=M.cell 5 Oo;obtain⟨al,cl,rfl,-⟩:=h;clear M I a6;unfold asV at HK |-;go_enter func136,ntmps136;go_upto_region 1 with fail;rw[<-K];clear K;go_wp2_with (go_at_call 168;apply HK.o.mn;intro w' hb;have I:=HZ.o.zz Oo hb;have z0:=I.cell 0 Oo;have z1:=I.cell 1 Oo;have z2:=I.cell 2 Oo;have z3:=I.cell 3 Oo;have z4:=I.cell 4 Oo;have z5:=I.cell 5 Oo;have f0:=I.L 0 Oo;have f1:=I.L 1 Oo;have f2:=I.L 2 Oo;have f3:=I.L 3 Oo;have f4:=I.L 4 Oo;have f5:=I.L 5 Oo);refine aU (v:=asV (xS l f)) (by unfold asV;simp[results,results136,go_sem,z0,z1,z2,z3,z4,z5]) rfl ⟨rfl,?_⟩;have V:J w.1<=J w.1+1:=Oo;exact((((((bt hB hb).setCell V _).setCell V _).setCell V _).setCell V _).setCell V _).setCell V _
def QW w vs{r}(hv:IS w vv vs)(hr:IS w vr r)(a6:E r=E vs)(hl:E vs<=1000)(b7:∀y∈vs,0<=y/\y<6)(hp:vs.Pairwise (·< ·)):
 aG 135 #[vv,vr] w (asV (xS vs λi=>vlF vs r i)):=by
 obtain⟨a,cap,rfl,hc⟩:=hv;obtain⟨ar,b8,rfl,V⟩:=hr;rw[a6]at V |-;have⟨n,hn⟩:=Ex (E vs);rw[<-hn]at hc V hl a6 |-;have⟨W2,a7⟩:=Ex (S (aJ w #[ai 0,ai 0,ai 0,ai 0,ai 0,ai 0] 140) (eZ #[ai 0,ai 0,ai 0,ai 0,ai 0,ai 0] 140));have HX:Hh (Bl w W2/\ArrAt W2 (J w.1+1) 6 (λi=>ai (xR (vs.take 0) (λ_=>0) (λi=>vlF vs r i) i))/\ArrAt W2 (J w.1) 6 (λ_=>ai 0)):=(by
  have h0:=six (w:=w) (λ_=>0) 140;have h1:=six (w:=aJ w #[ai 0,ai 0,ai 0,ai 0,ai 0,ai 0] 140) (λ_=>0) 140;rw[a7];rw[aM]at h1;exact⟨(aK).alloc Ss _,h1,h0.zz Oo aK⟩)
 change Hh _ at hc V hn b7 hp;clear a6;go_enter func135,ntmps135;go_upto_region 2 with fail;rw[<-a7];clear a7;go_wp2;go_loopw [10] (λt wr=>∃j:Nat,j<=n/\t=ai j/\Hh (Bl w wr/\ArrAt wr (J w.1+1) 6 (λi=>ai (xR (vs.take j) (λ_=>0) (λi=>vlF vs r i) i))/\ArrAt wr (J w.1) 6 (λ_=>ai 0))) (mZ n);exact⟨0,eC,rfl,HX⟩;clear HX;obtain⟨j,hj,rfl,HX⟩:=hrel;have⟨hB,M,I⟩:=HX.o;by_cases a8:j<n
 .have i1:=aV a8;rcases hc.o with h0|⟨b,o,rfl,O⟩;omega;rcases V.o with h0|⟨br,or,rfl,K⟩;omega;have c0:=O j a8;have c2:=qF hB (K j a8);have a9:j<E vs:=by rw[<-hn.o];exact a8
  have hy:=b7 _ (qFl (l:=vs) (j:=j) a9);have b1:=jL _ r j hp a9;obtain⟨v,hv⟩:∃v:Nat,U vs j 0=(v:Int):=⟨(U vs j 0).toNat,Oo⟩;rw[hv]at c0 hy b1;rw[<-b1]at c2;have v6:v<6:=Oo;have i2:=aV v6;have c1:=qF hB c0;have c3:=M.cell v v6;have f3:=M.L v v6;have HE:Hh (Bl w (sC wr (J w.1+1) v (ai (vlF vs r v)))/\ArrAt (sC wr (J w.1+1) v (ai (vlF vs r v))) (J w.1+1) 6 (λi=>ai (xR (vs.take (j+1)) (λ_=>0) (λi=>vlF vs r i) i))/\ArrAt (sC wr (J w.1+1) v (ai (vlF vs r v))) (J w.1) 6 (λ_=>ai 0)):=(by
   refine⟨hB.setCell (iF _) _,?_,I.A (eG (by show J w.1≠J w.1+1;omega))⟩;have h1:=M.set v6 (ai (vlF vs r v));refine⟨λi hi=>(h1.cell i hi).trans ?_,h1.L⟩;rw[U1 a9 hv];split <;> rfl)
  clear HX hB M I O K c0 hv hy b1;generalize vlF vs r v=x at *;go_wp2;go_roundw;exact⟨j+1,Oo,Gg,HE⟩;exact Im
 obtain rfl:j=n:=Oo;have i1:=aY j;rw[hn.o,tL]at M;have a0:=M.cell 0 Oo;have a1:=M.cell 1 Oo;have a2:=M.cell 2 Oo;have a3:=M.cell 3 Oo;have a4:=M.cell 4 Oo;have a5:=M.cell 5 Oo;have z0:=I.cell 0 Oo;have z1:=I.cell 1 Oo;have z2:=I.cell 2 Oo;have z3:=I.cell 3 Oo;have z4:=I.cell 4 Oo;have z5:=I.cell 5 Oo;have f0:=I.L 0 Oo;have f1:=I.L 1 Oo;have f2:=I.L 2 Oo;have f3:=I.L 3 Oo;have f4:=I.L 4 Oo;have f5:=I.L 5 Oo;change Hh _ at hB;clear M I HX;go_wp2;refine aU (v:=asV (xR _ _ _)) (by unfold asV;simp[results,results135,go_sem,z0,z1,z2,z3,z4,z5]) rfl ⟨rfl,?_⟩;exact(((((hB.o.setCell eA _).setCell eA _).setCell eA _).setCell eA _).setCell eA _).setCell eA _
open Go.Maps
def Ok6(a:LI):Prop:=E a=6/\∀x∈a,-9223372036854775808<=x/\x<=9223372036854775807
def asL(a:LI):oV:=asV λi=>U a i 0
def qCq(h:E a=6):∃x0 x1 x2 I K M,a=[x0,x1,x2,I,K,M]:=by
 match a,h with
 |[x0,x1,x2,I,K,M],_=>exact⟨_,_,_,_,_,_,rfl⟩
def qHc{b}(ha:E a=6)(hb:E b=6)(h:asL a=asL b):a=b:=by
 obtain⟨x0,x1,x2,x3,x4,x5,rfl⟩:=qCq ha;obtain⟨y0,y1,y2,y3,y4,y5,rfl⟩:=qCq hb;unfold asL asV at h;simp only[Value.agg.injEq,Array.mk.injEq,mS,Value.int.injEq,true_and,iB]at h;obtain⟨I,K,M,O,V,h5⟩:=h;simp at I K M O V h5;rw[I,K,M,O,V,h5]
def Ok6.at(h:Ok6 a)i:-9223372036854775808<=U a i 0/\U a i 0<=9223372036854775807:=by
 rcases dL i (E a) with e|e;exact h.2 _ (qFl e);rw[gD,gN e];exact⟨Dd,Dd⟩
def Tryz.laidA:laidOutB Tryz.prog:=Kl
def Tryz.rowA:(140:TypeId)<Tryz.prog.types.size:=aN Kl
def Tryz.lawA:Keyed wD 140:=Keyed.of_law (deep_law_laid Tryz.laidA (m:=3) Oo Tryz.rowA Kl (by rw[underlying140]))
def Tryz.underWo:Tryz.prog.underlying 115=Q (.map 140 3):=Kl
def Tryz.underEn:Tryz.prog.underlying 147=Q (.map 140 115):=Kl
def Tryz.zeroA w:(zeroValue 3).run wD w=.ok (.int .i64 0) w:=Kl
def Tryz.cellsA:Tryz.prog.cellsOf 140=6:=Kl
def Tryz.cellsI4:Tryz.prog.cellsOf 3=1:=Kl
def Tryz.keyTypeA:Tryz.prog.keyType 140:=Kl
def qI2 d n(h:(Lit.int .i64 n).wf):Tryz.prog.keyLits (d+1) 3 [.int .i64 n]=Q [.int .i64 n]:=by
 unfold Program.keyLits;rw[underlying3];simp[h]
def qI3 d{x0 x1 x2 I K M}(O:(Lit.int .i64 x0).wf)(V:(Lit.int .i64 x1).wf)(h2:(Lit.int .i64 x2).wf)(h3:(Lit.int .i64 I).wf)(h4:(Lit.int .i64 K).wf)(h5:(Lit.int .i64 M).wf):Tryz.prog.keyLits (d+2) 140 [.int .i64 x0,.int .i64 x1,.int .i64 x2,.int .i64 I,.int .i64 K,.int .i64 M]=Q [.int .i64 x0,.int .i64 x1,.int .i64 x2,.int .i64 I,.int .i64 K,.int .i64 M]:=by
 unfold Program.keyLits;rw[underlying140];simp[Tryz.cellsA,Tryz.cellsI4,dQ,qI2,O,V,h2,h3,h4,h5]
def kla(a:LI):Lit:=.string (keyBytes [.int .i64 (U a 0 0),.int .i64 (U a 1 0),.int .i64 (U a 2 0),.int .i64 (U a 3 0),.int .i64 (U a 4 0),.int .i64 (U a 5 0)])
def yP(h:Ok6 a):keyOf wD 140 (asL a)=Q (kla a):=by
 obtain⟨n,I⟩:∃n,Tryz.prog.types.size=n+1:=Nat.exists_eq_succ_of_ne_zero (Nat.ne_of_gt (Nat.lt_of_le_of_lt eC Tryz.rowA));have w:=λi=>WalkArith.wf_i64 (O1 (h.at i));have M:(asL a).formed wD 140:=by
  unfold asL asV Value.formed;rw[underlying140];simp[Tryz.cellsA]
 unfold keyOf;rw[underlying140,Tryz.keyTypeA,M,I];have O:(asL a).cells.toList=[.int .i64 (U a 0 0),.int .i64 (U a 1 0),.int .i64 (U a 2 0),.int .i64 (U a 3 0),.int .i64 (U a 4 0),.int .i64 (U a 5 0)]:=rfl;simp only[O,Bool.and_true,nI,Option.map_eq_some_iff,Nat.add_assoc,Nat.reduceAdd];exact⟨_,qI3 n (w 0) (w 1) (w 2) (w 3) (w 4) (w 5),rfl⟩
def XR{b}(I:Ok6 a)(hb:Ok6 b)(h:kla a=kla b):a=b:=qHc I.1 hb.1 (Tryz.lawA.inj (yP I) (by rw[h];exact yP hb))
def V0(I:Ok6 a):WideAt.IsKeyLit (kla a):=Tryz.lawA.key (yP I)
section
variable {R:oV->Option (DataW Unit×List MemPlace)} {W W':oX} {b:Nat} {ks:LL} {D:DataW Unit}
structure Wm(R:oV->Option (DataW Unit×List MemPlace))(W:oX)(b:Nat)(ks:LL)(D:DataW Unit):Prop where
 z:W.ownsMap wD 140 R b (E ks) D
 has:∀a,Ok6 a->Maps.has D (kla a)=oD (a∈ks)
 all:∀l,Maps.has D l->∃a,Ok6 a/\kla a=l
 size:Maps.size D=E ks
 nd:ks.Nodup
 ok:∀a∈ks,Ok6 a
def Wm.zv(w:oX):Wm R (S w (.map #[] 0)) (J w.1) [] (.map []):=⟨ownsMap_made _ _ _ _,λ_ _=>rfl,λl h=>(by cases h),rfl,nodup_nil,λa h=>by cases h⟩
def Wm.A(h:Wm R W b ks D)(hb:W'.1[b]?=W.1[b]?):Wm R W' b ks D:=by
 have⟨es,clock,hb',F,hs,I⟩:=h.z;exact⟨⟨es,clock,hb.trans hb',F,hs,I⟩,h.has,h.all,h.size,h.nd,h.ok⟩
def Wm.lt(h:Wm R W b ks D):b<J W.1:=h.z.lt
def Wm.O(h:Wm R W b ks D)(hb:Bl W W'):Wm R W' b ks D:=h.A (hb.block b h.lt)
def xa(a:LI)(ks:LL):LL:=if a∈ks then ks else ks++[a]
def um:x∈xa a ks↔x=a\/x∈ks:=by
 unfold xa;split;exact⟨.inr,λh=>h.elim (λe=>e ▸ ‹_›) id⟩;rw[cF,cI];exact Or.comm
def YG:E (xa a ks)<=E ks+1:=by
 unfold xa;split;omega;rw[lA,lS];omega
def Wm.put{d}(h:Wm R W b ks D)(M:Ok6 a)(ho:W'.ownsMap wD 140 R b n (D.put (kla a) d)):Wm R W' b (xa a ks) (D.put (kla a) d):=by
 have O:=h.z.tidy Tryz.lawA;have V:Maps.size (D.put (kla a) d)=E (xa a ks):=by
  rw[size_put O,h.has a M,h.size];unfold xa;by_cases e:a∈ks;rw[fE e,fE (fD e)];rw[fF e,fF (by simpa using e),lA];rfl
 refine⟨?_,λx K=>?_,λl hl=>?_,V,?_,λx K=>?_⟩;have⟨es,clock,I,F,h2,h3⟩:=ho;refine⟨es,clock,I,F,?_,h3⟩;rw[<-V,h3,size_eq,length_read];exact eA
 .by_cases e:x=a;subst e;rw[has_put_same O.isMap (V0 M),fD (um.2 (.inl rfl))];rw[has_put_other λe2=>e (XR K M e2),h.has x K];exact oK.2 ⟨λI=>um.2 (.inr I),λI=>(um.1 I).resolve_left e⟩
 .by_cases e:l=kla a;exact⟨a,M,e.symm⟩;rw[has_put_other e]at hl;exact h.all l hl
 .unfold xa;split;exact h.nd;exact nodup_append.2 ⟨h.nd,Ss,λx K y hy=>by rw[cI]at hy;subst hy;exact λe=>‹¬_› (e ▸ K)⟩
 rcases um.1 K with rfl|I;exact M;exact h.ok x I
end
end Go.Proofs.YtfpjpngjikdaoaaGreat
namespace Go.Proofs.YtfpjpngjikdaoaaGreat
open Go.Proofs.Tryz Go.RowKit
section
variable {b c j n r N k o m:Nat}{C D:NQ}{a w w' W:oX}{iQ:Exit->Act->WP}{B:NN}{bar:NB}
def jI:(Tryz.prog.info? 250).map (·.size)=Q 350:=Kl
def zSx:AV:=Array.replicate 330 (ai 0)++Array.replicate 20 (oB nF)
def Zc w:(Instr.alloc 250 true (.tuple #[])).run wD w=.ok (pZ (J w.1) 0) (S w (eZ zSx 250)):=Kl
def qBu{op:Oper}{a}{K:Act->WP}(ho:op.op=.alloc 250)
 (h:K (a.put op.dst (pZ (J w.1) 0)) (S w (eZ zSx 250))):op.wp wD a w K iQ:=by
 unfold Oper.wp execOp;simp only[ho,Sem.run_bind,Sem.run_pure,Result.andThen_ok,Zc];exact h
def uD{ops rest op a}(I:op.guard=wH)(ho:op.op=.alloc 250)
 (h:wpList wD ops iQ rest (a.put op.dst (pZ (J w.1) 0)) (S w (eZ zSx 250))):wpList wD ops iQ (op::rest) a w:=
 wpList_plain I λ_ K=>qBu ho (K _ _ h)
def qf{b}(h:Below a.drew.1.size a.drew b):Bl a b:=⟨h.os,h.tape,h.output,h.size,h.block⟩
def xX(hb:N<=b):∀(vs:LV) (o:Nat) (w:oX),Below N a w->Below N a (w.setCells b o vs)
 |[],_,_,h=>h
 |v::r,o,w,h=>by
  rw[setCells];exact xX hb r (o+1) _ (h.setCell hb v)
def Xm:∀(vs:LV) (o:Nat) (w:oX),Kb b a w->Kb b a (w.setCells b o vs)
 |[],_,_,h=>h
 |v::r,o,w,h=>by
  rw[setCells];exact Xm r (o+1) _ (h.set o v)
def Qn:zSx.size=350:=by simp[zSx]
def yi(w:oX)t:(S w (eZ zSx t)).there (J w.1) 0 350:=by
 intro j I;rw[cU];have hb:=dZ w (eZ zSx t);refine⟨?_,?_⟩;rw[eI hb,dC (by rw[Qn];exact I)];rfl;unfold World.frozen?;rw[hb];simp
def kF{P fn}{p:Tmp}{ty}(h:fn.results=#[.cell p ty]){tmps:AV}g(cs:LV){d}
 (K:tmps.getD p undef=pZ g 0) (M:w.rangeAt g 0 cs) (O:P.underlying ty=Q d) (hd:d.isRow) (hi:(P.info? ty).map (·.size)=Q (E cs)):
 (results fn tmps).run P w=.ok (aQ cs.toArray) w:=by
 have I:tmps[p]?.getD undef=pZ g 0:=by simpa using K
 simp[results,h,I,asAddr,run_loadVar_mid w g 0 ty cs d M O hd hi]
def qx(h:w.there b 0 n)(hb:Bl w w'):w'.there b 0 n:=by
 intro j M;have⟨K,O⟩:=h j M;have⟨u,V⟩:=Option.isSome_iff_exists.1 K;have I:=bL w _ V;rw[hb.cell (p:=az b (0+j)) I,hb.frozen (p:=az b (0+j)) I];exact⟨K,O⟩
def xm(h:w.there b 0 n){v}:(sW w (az k o) v).there b 0 n:=tT h k o [v]
def pvS{k2 B2 M}(I:SxAt W k m n C B bar)(O:SxAt W k2 m n D B2 M)(K:r<=m)(V:j<=n)(hc:c<=n):
 eQ W (az k (2+r*40+j*2))=Q (ai (C r j).num)/\eQ W (az k (2+r*40+j*2+1))=Q (ai (C r j).den)/\eQ W (az k (2+r*40+c*2))=Q (ai (C r c).num)/\eQ W (az k (2+r*40+c*2+1))=Q (ai (C r c).den)/\
 (eQ W (az k2 (2+r*40+j*2))).isSome/\(eQ W (az k2 (2+r*40+j*2+1))).isSome/\W.frozen? (az k2 (2+r*40+j*2))=nF/\W.frozen? (az k2 (2+r*40+j*2+1))=false:=by
 have hm:=I.g.mle;have hn:=I.g.nle;have e1:eQ W (az k2 (2+r*40+j*2))=_:=O.g.num r j K V;have e2:eQ W (az k2 (2+r*40+j*2+1))=_:=O.g.den r j K V;exact⟨I.g.num r j K V,I.g.den r j K V,I.g.num r c K hc,I.g.den r c K hc,by rw[e1];rfl,by rw[e2];rfl,O.L _ Oo,O.L _ Oo⟩
def X8(C:NQ)(r c j:Nat):NQ:=λa b=>if b<j then Cov.pivT C r c a b else C a b
def Zd(C:NQ)(r c j i:Nat):NQ:=λa b=>if b<j\/(b=j/\(a<i\/a=r)) then Cov.pivT C r c a b else C a b
def qEQ(h:C r j=0)a:Cov.pivT C r c a j=C a j:=by
 unfold Cov.pivT;split
 .rename_i e;rw[e,h];grind
 rw[h];grind
def qFf{a}(h:C a c=0)(I:a≠r)j:Cov.pivT C r c a j=C a j:=by
 unfold Cov.pivT;rw[fF I,h];grind
def JQ k m n(h:SxAt w k m n C B bar)r c(hr:r<m)(hc:c<n)
 (g5:C r c≠0) (e3:∀a b,a<=m->b<=n->Sm 41000 (C a b)) (d5:∀a b,a<=m->b<=n->Sm 41000 (Cov.pivT C r c a b)):
 Cl 220 #[pZ k 0,ai r,ai c] w λe w'=>∃V,e=rE (aQ V)/\IsSx V m n (Cov.pivT C r c) (Cov.pivB B r c) bar/\Bl w w':=by
 have hn:=h.g.nle;have hm:=h.g.mle;have h7:=h.lt;change Hh _ at e3 d5;have⟨cs,c8⟩:=Ex (cellsOf w k);have hlen:E cs=350:=by rw[c8];exact yD w k
 have a7:w.rangeAt k 0 cs:=by rw[c8];exact jS h
 have d7:IsSx cs.toArray m n C B bar:=by rw[c8];exact Vs h
 clear c8;change Hh _ at hlen a7;go_enter func220,ntmps220;go_upto_region 1 with (refine uD rfl rfl ?_);go_frame;go_cut [7] (λv wc=>v=pZ (J w.1+1) 0/\Bl w wc/\wc.there (J w.1) 0 350/\SxAt wc (J w.1+1) m n C B bar)
 case first=>
  have HT:Hh ((S (aJ w zSx 250) (eZ zSx 250)).there (J w.1+1) 0 cs.toArray.size):=by
   have:=yi (aJ w zSx 250) 250;rw[show J (aJ w zSx 250).1=J w.1+1 by simp]at this;rw[show cs.toArray.size=350 by simpa using hlen.o];exact this
  have g6:Hh ((S (aJ w zSx 250) (eZ zSx 250)).there (J (aJ w zSx 250).1) 0 cs.toArray.size):=by
   rw[show cs.toArray.size=350 by simpa using hlen.o];exact yi (aJ w zSx 250) 250
  have HI:Hh ((Tryz.prog.info? 250).map (·.size)=Q (E cs)):=by
   show _=_;rw[hlen.o];exact jI
  have g7:Hh ((Tryz.prog.info? 250).map (·.size)=Q cs.toArray.size):=by
   show _=_;rw[show cs.toArray.size=350 by simpa using hlen.o];exact jI
  have HO:=ay d7.one;have g8:=ay (rangeAt_alloc a7.o (eZ zSx 250));go_wp2_with (first|refine uD rfl rfl ?_|refine tE rfl 250 _ rfl k 0 Fl cs _ g8.o underlying250 Fl HI.o ?_|refine tC rfl 250 _ _ rfl _ 0 cs.toArray Fl Fl (by first|with_reducible exact g6.o|with_reducible exact HT.o) g7.o HO.o ?_);go_meet;refine⟨Ss,?_,?_,?_⟩;exact xX Ss _ _ _ ((aK).alloc Ss _);exact tT (there_alloc (yi w _) _) _ _ _;have:=d7.stored (b:=J w.1+1) (w:=S (aJ w zSx 250) (eZ zSx 250)) (by have:=HT.o;rwa[show cs.toArray.size=350 by simpa using hlen.o]at this);simpa using this
 case rest=>
  obtain⟨rfl,hB,hT,hS⟩:=hcut;have hk:=h.zz hB;have d8:=hk.g.cols;have g9:=hS.g.bas r hr;have h0:=hS.L (322+r) Oo;have e4:=hB.setCell (p:=az (J w.1+1) (322+r)) Ss (ai (c:Nat));have e5:(sC wc (J w.1+1) (322+r) (ai (c:Nat))).there (J w.1) 0 350:=tT hT (J w.1+1) (322+r) [ai (c:Nat)];have e6:=hS.setBas hr c;have i1:(r:Int)<8:=Oo;have i2:(c:Int)<20:=Oo;clear hlen a7 d7;go_wp2;go_loopw [22] (λt wr=>∃j:Nat,j<=n+1/\t=ai j/\Bl w wr/\wr.there (J w.1) 0 350/\SxAt wr (J w.1+1) m n (X8 C r c j) (Cov.pivB B r c) bar) (mZ (n+1));exact⟨0,eC,rfl,e4,e5,e6.V (λ_ _ _ _=>fF Oo) (λ_ _=>rfl) (λ_ _=>rfl)⟩;obtain⟨j,hj,rfl,b8,c9,a9⟩:=hrel;clear hB hT hS d8 g9 h0 e4 e5 e6 hk;have b7:=h.zz b8;by_cases h8:j<n+1
  .have i3:(j:Int)<n+1:=Oo;have i4:(j:Int)<20:=Oo;have⟨a1,a2⟩:=show aC wr k (2+r*40+j*2) (ai (C r j).num)/\eQ wr (az k (2+r*40+j*2+1))=Q (ai (C r j).den) from ⟨b7.g.num r j Oo Oo,b7.g.den r j Oo Oo⟩
   by_cases hz:C r j=0
   .have hs:(sgR (C r j) == 0):=by rw[uZ hz];decide
    change Hh _ at hz;go_wp2_with (go_at_call 183;apply (jB (C r j)).mono;rintro e w' ⟨rfl,hb⟩);go_roundw
    case rel=>
     refine⟨j+1,Oo,Gg,bt b8 hb,λo ho=>?_,(a9.zz hb).V (λa b _ _=>?_) (λ_ _=>rfl) (λ_ _=>rfl)⟩;exact qx c9 hb o ho;unfold X8;by_cases e:b=j;rw[e,fE Oo,fF Oo,qEQ hz.o];by_cases e2:b<j;rw[fE Oo,fE e2];rw[fF Oo,fF e2]
    case measure=>exact Im
   have hs:(sgR (C r j) == 0)=false:=by
    by_cases e:C r j<0;rw[uX e];decide;rw[uY Rr];decide
   have X1:=ay (e3.o r j Oo Oo);have X2:=ay (e3.o r c Oo Oo);have k2:=J w.1+1;have hkne:J w.1+1≠k:=Oo;have e7:=a9.lt;have⟨a3,a4⟩:=show aC wr k (2+r*40+c*2) (ai (C r c).num)/\eQ wr (az k (2+r*40+c*2+1))=Q (ai (C r c).den) from ⟨b7.g.num r c Oo Oo,b7.g.den r c Oo Oo⟩
   go_upto_region 7 with (go_at_call 183;apply (jB (C r j)).mono;rintro e w' ⟨rfl,O⟩);have a5:=b7.zz O;have I:=a9.zz O;have d0:=bt b8 O;have d1:=qx c9 O;go_cut [8] (λv wx=>v=ai j/\Bl w wx/\wx.there (J w.1) 0 350/\SxAt wx (J w.1+1) m n (Zd C r c j 0) (Cov.pivB B r c) bar)
   case first=>
    go_region_held3 (λw'=>aC w' k (2+r*40+j*2) (ai (C r j).num)/\aC w' k (2+r*40+j*2+1) (ai (C r j).den)/\aC w' k (2+r*40+c*2) (ai (C r c).num)/\aC w' k (2+r*40+c*2+1) (ai (C r c).den)/\(eQ w' (az (J w.1+1) (2+r*40+j*2))).isSome/\(eQ w' (az (J w.1+1) (2+r*40+j*2+1))).isSome/\w'.frozen? (az (J w.1+1) (2+r*40+j*2))=nF/\w'.frozen? (az (J w.1+1) (2+r*40+j*2+1))=nF)
     (first|exact pvS a5.drew I.drew Oo Oo (Oo)|exact pvS (a5.drew.zz hb) (I.drew.zz hb) Oo Oo (Oo)|exact pvS (((a5.drew.zz hb).far _ hkne).far _ hkne) ((I.drew.zz hb).setNum Oo Oo (C r j / C r c)) Oo Oo Oo)
     (first|go_at_call 282;apply (qDR (C r j) (C r c) X1.o X2.o Dd g5).mn;intro w' hb;have q1:=(I.drew.zz hb).g.num r j Oo Oo;have q2:=(I.drew.zz hb).g.den r j Oo Oo)
    go_wp2;go_meet;have a6:=eB.drew.trans hb;refine⟨rfl,((bt d0 a6).setCell Ss _).setCell Ss _,xm (xm (qx d1 a6)),((I.zz a6).setNum Oo Oo (C r j / C r c)).V (λa b _ _=>?_) (λ_ _=>rfl) (λ_ _=>rfl)⟩;unfold Zd X8;by_cases e:a=r/\b=j;rw[fE e,fE Oo,e.1,e.2];exact fE rfl;rw[fF e];by_cases e2:b<j;rw[fE (.inl e2),fE e2];rw[fF Oo,fF e2]
   case rest=>
    obtain⟨rfl,d9,e8,e9⟩:=hcut;clear b8 c9 a9 b7 a5 I d0 d1 a1 a2 a3 a4 e7 O;obtain⟨wo,rfl⟩:=Ex (wc:oX);have f7:=(h.zz d9).g.x;go_wp2;go_loopw [64] (λt wr=>∃i:Nat,i<=m+1/\t=ai i/\Bl w wr/\wr.there (J w.1) 0 350/\SxAt wr (J w.1+1) m n (Zd C r c j i) (Cov.pivB B r c) bar) (mZ (m+1));exact⟨0,eC,rfl,d9,e8,e9⟩;obtain⟨i,hi,rfl,b9,d2,d3⟩:=hrel;clear d9 e8 e9 f7;have e0:=h.zz b9;by_cases h9:i<m+1
    .have i5:(i:Int)<m+1:=Oo;have i6:(i:Int)<8:=Oo;by_cases c7:i=r
     .have h2:((i:Int) != (r:Int))=false:=Sy;have HI:=ay c7;clear c7;go_wp2;go_roundw
      case rel=>
       refine⟨i+1,Oo,Gg,b9,d2,d3.V (λa b _ _=>?_) (λ_ _=>rfl) (λ_ _=>rfl)⟩;have:=HI.o;unfold Zd;by_cases e:b<j\/(b=j/\(a<i\/a=r));rw[fE e,fE Oo];rw[fF e,fF Oo]
      case measure=>exact Im
     have h2:((i:Int) != (r:Int)):=Sy;have⟨b1,b2⟩:=show aC wr k (2+i*40+c*2) (ai (C i c).num)/\eQ wr (az k (2+i*40+c*2+1))=Q (ai (C i c).den) from ⟨e0.g.num i c Oo Oo,e0.g.den i c Oo Oo⟩
     by_cases e1:C i c=0
     .have hs2:(sgR (C i c) != 0)=false:=by rw[uZ e1];decide
      change Hh _ at e1;go_wp2_with (go_at_call 183;apply (jB (C i c)).mono;rintro e w' ⟨rfl,hb⟩);go_roundw
      case rel=>
       refine⟨i+1,Oo,Gg,bt b9 hb,qx d2 hb,(d3.zz hb).V (λa b _ _=>?_) (λ_ _=>rfl) (λ_ _=>rfl)⟩;unfold Zd;by_cases e:b<j\/(b=j/\(a<i\/a=r));rw[fE e,fE Oo];rw[fF e];by_cases e2:a=i/\b=j;rw[fE Oo,e2.1,e2.2,qFf e1.o c7];rw[fF Oo]
      case measure=>exact Im
     have hs2:(sgR (C i c) != 0):=by
      by_cases e:C i c<0;rw[uX e];decide;rw[uY Rr];decide
     have Y1:=ay (e3.o i j Oo Oo);have Y2:=ay (e3.o i c Oo Oo);have Y3:=ay (d5.o r j Oo Oo);have Y4:=ay (Y2.o.mul Y3.o);have a8:Hh (Zd C r c j i r j=Cov.pivT C r c r j):=fE Oo;go_upto_region 12 with (go_at_call 183;apply (jB (C i c)).mono;rintro e w' ⟨rfl,O⟩);have a5:=e0.zz O;have I:=d3.zz O;have d0:=bt b9 O;have d1:=qx d2 O;have keep:∀W D B2 d6,SxAt W k m n C B bar->SxAt W (J w.1+1) m n D B2 d6->D r j=Cov.pivT C r c r j->aC W k (2+i*40+j*2) (ai (C i j).num)/\aC W k (2+i*40+j*2+1) (ai (C i j).den)/\aC W k (2+i*40+c*2) (ai (C i c).num)/\aC W k (2+i*40+c*2+1) (ai (C i c).den)/\aC W (J w.1+1) (2+r*40+j*2) (ai (Cov.pivT C r c r j).num)/\aC W (J w.1+1) (2+r*40+j*2+1) (ai (Cov.pivT C r c r j).den):=λW D B2 d6 g1 g2 g3=>
      ⟨g1.g.num i j Oo Oo,g1.g.den i j Oo Oo,g1.g.num i c Oo Oo,g1.g.den i c Oo Oo,by rw[<-g3];exact g2.g.num r j Oo Oo,by rw[<-g3];exact g2.g.den r j Oo Oo⟩
     change Hh _ at keep;go_region_held3 (λw'=>aC w' k (2+i*40+j*2) (ai (C i j).num)/\aC w' k (2+i*40+j*2+1) (ai (C i j).den)/\aC w' k (2+i*40+c*2) (ai (C i c).num)/\aC w' k (2+i*40+c*2+1) (ai (C i c).den)/\aC w' (J w.1+1) (2+r*40+j*2) (ai (Cov.pivT C r c r j).num)/\aC w' (J w.1+1) (2+r*40+j*2+1) (ai (Cov.pivT C r c r j).den))
      (first|exact keep.o _ _ _ _ a5.drew I.drew a8.o|exact keep.o _ _ _ _ (a5.drew.zz hb) (I.drew.zz hb) a8.o|exact keep.o _ _ _ _ ((a5.drew.zz hb).zz hb') ((I.drew.zz hb).zz hb') a8.o|exact keep.o _ _ _ _ ((((a5.drew.zz hb).zz hb').far _ hkne).far _ hkne) (((I.drew.zz hb).zz hb').setNum Oo Oo (C i j-C i c*Cov.pivT C r c r j)) ((fF (λe=>c7 e.1.symm)).trans a8.o))
      (first|go_at_call 283;apply (qEP (C i c) (Cov.pivT C r c r j) _ Y2.o Y3.o Dd).mono;rintro e w' ⟨rfl,hb⟩|go_at_call 182;apply (Ys (C i j) (C i c*Cov.pivT C r c r j) Y1.o Y4.o Dd).mn;intro w'' hb';have q1:=((I.drew.zz hb).zz hb').g.num i j Oo Oo;have q2:=((I.drew.zz hb).zz hb').g.den i j Oo Oo;have q3:w''.frozen? (az (J w.1+1) (2+i*40+j*2))=false:=((I.drew.zz hb).zz hb').L _ Oo;have q4:w''.frozen? (az (J w.1+1) (2+i*40+j*2+1))=false:=((I.drew.zz hb).zz hb').L _ Oo)
     go_wp2;go_roundw
     case measure=>exact Im
     have a6:=bt (qf hb) hb';refine⟨i+1,Oo,Gg,((bt d0 a6).setCell Ss _).setCell Ss _,xm (xm (qx d1 a6)),((I.zz a6).setNum Oo Oo (C i j-C i c*Cov.pivT C r c r j)).V (λa b _ _=>?_) (λ_ _=>rfl) (λ_ _=>rfl)⟩;unfold Zd;by_cases e:a=i/\b=j;rw[fE e,fE Oo,e.1,e.2];unfold Cov.pivT;rw[fF c7,fE rfl];rw[fF e];by_cases e2:b<j\/(b=j/\(a<i\/a=r));rw[fE e2,fE Oo];rw[fF e2,fF Oo]
    obtain rfl:i=m+1:=Oo;have i5:¬((m:Int)+1<(m:Int)+1):=Oo;go_wp2;go_roundw
    case rel=>
     refine⟨j+1,Oo,Gg,b9,d2,d3.V (λa b ha _=>?_) (λ_ _=>rfl) (λ_ _=>rfl)⟩;unfold Zd X8;by_cases e:b<j+1;rw[fE e,fE Oo];rw[fF e,fF Oo]
    case measure=>exact Im
  obtain rfl:j=n+1:=Oo;have i3:¬((n:Int)+1<(n:Int)+1):=Oo;have⟨cz,d4⟩:=Ex (cellsOf wr (J w.1+1));have M:E cz=350:=by rw[d4];exact yD _ _
  have h3:Hh (wr.rangeAt (J w.1+1) 0 cz):=by rw[d4];exact jS a9
  have K:IsSx cz.toArray m n (X8 C r c (n+1)) (Cov.pivB B r c) bar:=by rw[d4];exact Vs a9
  have h4:=ay K.one;have f8:Hh (wr.there (J w.1) 0 cz.toArray.size):=by
   rw[show cz.toArray.size=350 by simpa using M];exact c9
  have f9:Hh ((Tryz.prog.info? 250).map (·.size)=Q (E cz)):=by
   show _=_;rw[M];exact jI
  have h5:Hh ((Tryz.prog.info? 250).map (·.size)=Q cz.toArray.size):=by
   show _=_;rw[show cz.toArray.size=350 by simpa using M];exact jI
  clear d4;change Hh _ at M;go_wp2_with (first|refine tE rfl 250 _ rfl (J w.1+1) 0 Fl cz _ h3.o underlying250 Fl f9.o ?_|refine tC rfl 250 _ _ rfl (J w.1) 0 cz.toArray Fl Fl f8.o h5.o h4.o ?_);have g4:IsSx cz.toArray m n (Cov.pivT C r c) (Cov.pivB B r c) bar:=⟨K.1,⟨K.2.x,K.2.cols,λa b ha hb=>(K.2.num a b ha hb).trans (by unfold X8;rw[fE Oo]),λa b ha hb=>(K.2.den a b ha hb).trans (by unfold X8;rw[fE Oo]),K.2.bas,K.2.bars,K.2.one,K.2.mle,K.2.nle⟩⟩;have h6:(wr.setCells (J w.1) 0 cz.toArray.toList).rangeAt (J w.1) 0 cz:=by
   have:=tR wr (J w.1) 0 cz.toArray.toList (by have:=f8.o;simpa using this);simpa using this
  refine aU (v:=aQ cz.toArray) (kF results220 (J w.1) cz Fl h6 underlying250 Fl f9.o) rfl ⟨_,rfl,g4,xX eA _ _ _ b8⟩
end
variable {a b:Int}{c g i j k m n o r N:Nat}{bar g' p q:NB}{B B':NN}{A C T C':NQ}{t:TypeId}{v x y z:oV}{W W' w w':oX}{cost:Nat->Int}{s:Cov.Sx}{F:Nat->oV}
def Yl(h:m<=7):Cov.fac m<=5040:=by
 match m,h with
 |0,_=>decide
 |1,_=>decide
 |2,_=>decide
 |3,_=>decide
 |4,_=>decide
 |5,_=>decide
 |6,_=>decide
 |7,_=>decide
def rc(cost:Nat->Int):NR:=λj=>((cost j:Int):Rat)
def ji(h:Cov.Inv m n A T B)(hA:∀j,j<=n->∀r,r<m->Cov.Whole 1 (A j r))(hm:m<=7)cost(hc:∀j,(cost j).natAbs<=1):
 (∀i,i<m->∀j,j<=n->Sm 41000 (T i j))/\(∀j,j<=n->∀i,i<=m->Sm 41000 (rc cost j-Cov.sm i (λI=>rc cost (B I)*T I j))):=by
 have⟨D,V,hD,hw⟩:=h.small hA;have hf:=Yl hm;have K:∀j,Cov.Whole 1 (rc cost j):=λj=>⟨cost j,rfl,hc j⟩;refine⟨λi hi j M=>zb V Oo (hw i hi j M) Oo,λj M i hi=>?_⟩;have e:(rc cost j-Cov.sm i (λI=>rc cost (B I)*T I j))*((D:Int):Rat)=rc cost j*((D:Int):Rat)+-(Cov.sm i (λI=>rc cost (B I)*(T I j*((D:Int):Rat)))):=by
  have e1:Cov.sm i (λI=>rc cost (B I)*(T I j*((D:Int):Rat)))=((D:Int):Rat)*Cov.sm i (λI=>rc cost (B I)*T I j):=by
   rw[<-Cov.sm_mul];exact Cov.sm_congr (λI _=>Rr)
  rw[e1];grind
 have ht:Cov.Whole (1*Cov.fac m+i*(1*Cov.fac m)) ((rc cost j-Cov.sm i (λI=>rc cost (B I)*T I j))*((D:Int):Rat)):=by
  rw[e];exact((K j).mul ⟨D,rfl,hD⟩).add (Cov.whole_sm (λI a3=>(K _).mul (hw I Oo j M))).neg
 refine zb V Oo ht ?_;have h1:i*(1*Cov.fac m)<=7*5040:=mU Oo Oo;omega
def full(m:Nat)(cost:Nat->Int)(s:Cov.Sx):NQ:=λi j=>if i=m then Cov.red m (rc cost) s.T s.B j else s.T i j
def best_lt {g:NB} {b:Nat->NB}:∀{m o:Nat},Cov.best g b m=Q o->o<m
  |0,_,h=>by cases h
  |m+1,o,h=>by
   unfold Cov.best at h;cases hb:Cov.best g b m with
   |none=>
    rw[hb]at h;simp only at h;split at h;simp only[oI]at h;omega;cases h
   |some o'=>
    rw[hb]at h;have:=best_lt hb;simp only at h;split at h;simp only[oI]at h;omega;simp only[oI]at h;omega
def Ym{g b I}:∀{m:Nat},(∀i,i<m->g i=g' i)->(∀i,i<m->∀o,o<m->b i o=I i o)->Cov.best g b m=Cov.best g' I m
 |0,_,_=>rfl
 |m+1,hg,hb=>by
  have K:=Ym (m:=m) (λi hi=>hg i Oo) (λi hi o ho=>hb i Oo o Oo);unfold Cov.best;rw[K,hg m Oo];cases hbm:Cov.best g' I m with
  |none=>rfl
  |some o=>
   have ho:=best_lt hbm;simp only;rw[hb m Oo o Oo]
def Xi:∀{n:Nat},(∀i,i<n->p i=q i)->Cov.first p n=Cov.first q n
 |0,_=>rfl
 |n+1,h=>by
  unfold Cov.first;rw[Xi (n:=n) (λi hi=>h i Oo),h n Oo]
def qDJ:Cov.first (λj=>!bar j&&oD (full m cost s m j<0)) n=Cov.enterOf m n (rc cost) bar s:=by
 unfold Cov.enterOf;refine Xi (λj _=>?_);unfold full;rw[fE rfl]
def qDK:Cov.best (λi=>oD (0<full m cost s i c)) (Cov.before (full m cost s) s.B n c) m=Cov.leaveOf m n s c:=by
 unfold Cov.leaveOf;have e:∀i,i<m->∀j,full m cost s i j=s.T i j:=λi hi j=>fF Oo;refine Ym (λi hi=>by rw[e i hi]) (λi hi o ho=>?_);unfold Cov.before;rw[e i hi,e i hi,e o ho,e o ho]
def qDL(h:Cov.Inv m n A s.T s.B)(I:r<m)(O:s.T r c≠0){a b}(V:a<=m):
 full m cost (Cov.pivS s r c) a b=Cov.pivT (full m cost s) r c a b:=by
 have e:∀i,i<m->∀j,full m cost s i j=s.T i j:=λi hi j=>fF Oo;have K:∀j,full m cost s m j=Cov.red m (rc cost) s.T s.B j:=λj=>fE rfl;by_cases M:a=m;subst M;rw[show full a cost (Cov.pivS s r c) a b=Cov.red a (rc cost) (Cov.pivT s.T r c) (Cov.pivB s.B r c) b from fE rfl,Cov.red_pivot h (rc cost) I O b];unfold Cov.pivT;rw[fF Oo,K,K,e r I,e r I];rw[show full m cost (Cov.pivS s r c) a b=Cov.pivT s.T r c a b from fF M];unfold Cov.pivT;rw[e r I,e r I,e a Oo,e a Oo]
def SxAt.there(h:SxAt w k m n C B bar):w.there k 0 350:=by
 intro j K;rw[cU];have⟨v,M,_⟩:=h.g.one j K;have I:=M;rw[I];exact⟨rfl,h.L j K⟩
def JP w k m n A C0 s(h:SxAt w k m n C0 s.B bar)(hC:∀i,i<m->∀j,j<=n->C0 i j=s.T i j)(hz:∀j,j<=n->Sm 41000 (C0 m j))
 (hG:Cov.Good m n A bar s) (hA:∀j,j<=n->∀r,r<m->Cov.Whole 1 (A j r))  (O:∀j,(cost j).natAbs<=1):
 aF 178 #[pZ k 0,aQ (zL 20 (λj=>ai (cost j))).toArray] w (.tuple #[]) λw'=>Kb k w w'/\∃c8 s',Cov.Aim m n (rc cost) bar s c8 s'/\SxAt w' k m n (full m cost s') s'.B c8:=by
 have hm:=h.g.mle;have hn:=h.g.nle;have⟨K,d8,d9⟩:=Cov.halts (rc cost) hG;have a9:Hh (∀q,Cov.Good m n A bar (Cov.it m n (rc cost) bar s q)):=λq=>hG.it q;have e0:Hh (∀q,(∀a b,a<=m->b<=n->Sm 41000 (full m cost (Cov.it m n (rc cost) bar s q) a b))):=by
  intro q a b ha hb;have⟨g1,g2⟩:=ji (a9 q).inv hA hm _ O;unfold full;split;exact g2 b hb m eA;exact g1 a Oo b hb
 have b1:∀j i,j<=n->i<=m->Sm 41000 (part cost C0 s.B j i):=by
  intro j i hj hi;have⟨_,g2⟩:=ji hG.inv hA hm _ O;have:=g2 j hj i hi;have e:part cost C0 s.B j i=rc cost j-Cov.sm i (λi'=>rc cost (s.B i')*s.T i' j):=by
   unfold part rc;congr 1;exact Cov.sm_congr (λi' g4=>by rw[hC i' Oo j hj])
  rw[e];exact this
 have c9:∀a b,a<=m->b<=n->Sm 41000 (C0 a b):=by
  intro a b ha hb;by_cases e:a=m;rw[e];exact hz b hb;have⟨g1,_⟩:=ji hG.inv hA hm _ O;rw[hC a Oo b hb];exact g1 a Oo b hb
 have PR:=ay (λwx hx=>qBw wx k m n bar hx O hG.inv.lt c9 b1);have b9:Hh (∀wx,SxAt wx k m n (kG cost C0 s.B m (n+1)) s.B bar->SxAt wx k m n (full m cost s) s.B bar):=by
  intro wx hx;refine hx.V (λa b ha hb=>?_) (λ_ _=>rfl) (λ_ _=>rfl);unfold full kG;by_cases e:a=m;rw[fE e,fE ⟨e,Oo⟩];unfold Cov.red part rc;congr 1;exact Cov.sm_congr (λi' g4=>by rw[hC i' Oo b hb]);rw[fF e,fF Oo,hC a Oo b hb]
 clear b1 c9 O hz hC;change Hh _ at hA d8 d9 hG;have HR:=ay (qj w 20 (λj=>ai (cost j)) 255).range;have HI:Hh ((Tryz.prog.info? 255).map (·.size)=Q (E (zL 20 (λj=>ai (cost j))))):=by
  show _=_;rw[jA];exact Yn
 go_enter func178,ntmps178;go_wp2_with (refine tE rfl 255 _ rfl _ 0 Fl (zL 20 (λj=>ai (cost j))) _ HR underlying255 Fl HI ?_);apply (PR.o _ (h.alloc (eZ (zL 20 (λj=>ai (cost j))).toArray 255))).mn;rintro w1 ⟨e3,hs1⟩;have d2:=(Kb.zu aK).trans e3;have d3:=b9 _ hs1;clear e3 hs1 HR HI;go_wp2_with fail;go_loopg [4] K (λg _ wr=>∃q:Nat,q<=K/\g=K-q/\Kb k w wr/\SxAt wr k m n (full m cost (Cov.it m n (rc cost) bar s q)) (Cov.it m n (rc cost) bar s q).B bar)
 case atStart=>exact⟨0,eC,Oo,d2,d3⟩
 case round=>
  have⟨q,hq,e4,hkb,hs⟩:=hrel;clear d2 d3;change Hh _ at e4;have⟨M,a5⟩:=Ex (Cov.it m n (rc cost) bar s q);have g6:Hh (Cov.Good m n A bar M):=by rw[a5];exact a9 q
  have e5:Hh (∀a b,a<=m->b<=n->Sm 41000 (full m cost M a b)):=by rw[a5];exact e0 q
  have e6:Hh (∀a b,a<=m->b<=n->Sm 41000 (full m cost (Cov.nxt m n (rc cost) bar M) a b)):=by rw[a5];exact e0 (q+1)
  change Hh _ at a5;rw[<-a5]at hs;go_wp2_with fail;apply (Vp k m n hs).mn;intro w2 e7;rw[qDJ];have hs2:=hs.zz e7;have a4:=hkb.P e7;clear hs hkb;cases he:Cov.enterOf m n (rc cost) bar M with
  |none=>
   have I:Hh (Cov.stepOf m n (rc cost) bar M=wH):=by
    show _=_;unfold Cov.stepOf;rw[he]
   clear he;rw[show Cov.idx wH=-1 from rfl];go_wp2_with fail;apply (Km (-1) Dd).mn;intro w3 b7;have a7:=hs2.zz b7;have a3:=a4.P b7;clear hs2 a4;have a8:q=K:=by
    by_cases e:q<K;exact absurd I (by rw[a5.o];exact d9 q e);omega
   have b8:Hh (Cov.Aim m n (rc cost) bar s (Cov.narrowed m n (rc cost) bar M) M):=⟨K,d8,d9,by rw[a5.o,a8],rfl⟩;clear a8;go_wp2_with fail;apply (ZZ k m n a7).mn;rintro w4 ⟨d5,hs4⟩;go_wp2;go_end0
   refine⟨rfl,a3.trans d5,_,M,b8.o,hs4.V (λ_ _ _ _=>rfl) (λ_ _=>rfl) (λj hj=>?_)⟩;unfold Cov.narrowed full;rw[fE rfl]
  |some c=>
   have hc:=(Cov.first_some he).1;rw[show Cov.idx (Q c)=(c:Int) from rfl];change Hh _ at he;go_wp2_with fail;apply (Kn k m n hs2 c hc e5.o).mn;intro w3 b7;rw[qDK];have a7:=hs2.zz b7;have a3:=a4.P b7;clear hs2 a4;cases hl:Cov.leaveOf m n M c with
   |none=>
    have I:Hh (Cov.stepOf m n (rc cost) bar M=wH):=by
     show _=_;unfold Cov.stepOf;rw[he.o];simp only;rw[hl]
    clear hl;rw[show Cov.idx wH=-1 from rfl];have a8:q=K:=by
     by_cases e:q<K;exact absurd I (by rw[a5.o];exact d9 q e);omega
    have b8:Hh (Cov.Aim m n (rc cost) bar s (Cov.narrowed m n (rc cost) bar M) M):=⟨K,d8,d9,by rw[a5.o,a8],rfl⟩;clear a8;go_wp2_with fail;apply (ZZ k m n a7).mn;rintro w4 ⟨d5,hs4⟩;go_wp2;go_end0
    refine⟨rfl,a3.trans d5,_,M,b8.o,hs4.V (λ_ _ _ _=>rfl) (λ_ _=>rfl) (λj hj=>?_)⟩;unfold Cov.narrowed full;rw[fE rfl]
   |some r=>
    have I:Cov.stepOf m n (rc cost) bar M=Q (r,c):=by
     unfold Cov.stepOf;rw[he.o];simp only;rw[hl]
    have⟨hr,_,_,_,_,e8,_⟩:=Cov.step_some I;have d6:M.T r c≠0:=Rr;have d7:Cov.nxt m n (rc cost) bar M=Cov.pivS M r c:=Cov.nxt_some I;have a8:q<K:=by
     by_cases e:q<K;exact e;exfalso;have e2:q=K:=Oo;have:=d8.o;rw[<-e2,<-a5.o,I]at this;cases this
    have hpv:Hh (∀a b,a<=m->Cov.pivT (full m cost M) r c a b=full m cost (Cov.pivS M r c) a b):=λa b ha=>(qDL g6.o.inv hr d6 ha).symm;have e9:Hh (∀a b,a<=m->b<=n->Sm 41000 (Cov.pivT (full m cost M) r c a b)):=λa b ha hb=>by
     rw[hpv.o a b ha,<-d7];exact e6 a b ha hb
    have f7:Hh (full m cost M r c≠0):=by
     show _≠_;unfold full;rw[fF Oo];exact d6
    have HN:Hh (Cov.it m n (rc cost) bar s (q+1)=Cov.pivS M r c):=by
     show Cov.nxt m n (rc cost) bar (Cov.it m n (rc cost) bar s q)=_;rw[<-a5.o];exact d7
    clear hl I e8 d7 d6;rw[show Cov.idx (Q r)=(r:Int) from rfl];have i1:¬((r:Int)<0):=Oo;go_wp2_with fail;apply (JQ k m n a7 r c hr hc f7.o e5.o e9.o).mono;rintro e w4 ⟨V,rfl,hV,f8⟩;have hs4:=a7.zz f8;have f9:=a3.P f8
    have HI:Hh ((Tryz.prog.info? 250).map (·.size)=Q V.size):=by
     show _=_;rw[hV.1];exact jI
    clear a7 a3;go_wp2_with (refine tC rfl 250 _ _ rfl k 0 V Fl Fl (by exact by rw[hV.1];exact hs4.there) HI hV.one ?_);go_roundg (K-(q+1))
    case measure=>have:=e4.o;omega
    case rel=>
     refine⟨q+1,Oo,rfl,Xm _ _ _ f9,?_⟩;rw[HN.o];exact (hV.stored hs4.there).V (λa b ha _=>(hpv a b ha).symm) (λ_ _=>rfl) (λ_ _=>rfl)
def ZI w(u:Nat)(a:OA)len cap below(I:u<=7)(hl:len<=7):
 aG 214 #[aQ #[ai u,Z a len cap,oB below]] w (ai ((if below then u+len+len else u+len:Nat):Int)):=by
 cases below
 .go_enter func214,ntmps214;go_wp2;go_ret;exact⟨qa Ss,by go_grown⟩
 go_enter func214,ntmps214;go_wp2;go_ret;exact⟨qa Oo,by go_grown⟩
def IntsAt(w:oX)(v:oV)(l:LN):Prop:=∃a cap,v=Z a (E l) cap/\∀j,j<E l->∃b o,a=Q (az b o)/\eQ w (az b (o+j))=Q (ai (U l j 0:Nat))
def RowsAt(w:oX)(v:oV)(L:List (LN)):Prop:=∃a cap,v=Z a (E L) cap/\∀i,i<E L->∃b o x,a=Q (az b o)/\eQ w (az b (o+i))=Q x/\IntsAt w x (U L i [])
def IntsAt.zz{l}(h:IntsAt w v l)(hb:Bl w w'):IntsAt w' v l:=by
 obtain⟨a,cap,rfl,h⟩:=h;refine⟨a,cap,rfl,λj K=>?_⟩;have⟨b,o,e,I⟩:=h j K;exact⟨b,o,e,(hb.cell (bL w _ I)).trans I⟩
def RowsAt.zz{L}(h:RowsAt w v L)(hb:Bl w w'):RowsAt w' v L:=by
 obtain⟨a,cap,rfl,h⟩:=h;refine⟨a,cap,rfl,λi hi=>?_⟩;have⟨b,o,x,e,I,K⟩:=h i hi;exact⟨b,o,x,e,(hb.cell (bL w _ I)).trans I,K.zz hb⟩
def yE(u:Nat)(L:List (LN))(below:Bool):NQ:=
 let m:=E L
 let n:=if below then u+m+m else u+m
 λi j=>if i<m then (if j=n then 1 else if j<u then (if (U L i []).contains j then 1 else 0) else if n-m+i=j then 1 else if below/\j=u+i then -1 else 0) else 0
def Kv a b w:(Instr.build 250 #[(0,ai a),(1,ai b)]).run wD w=.ok (aQ ((zSx.set! 0 (ai a)).set! 1 (ai b))) w:=Kl
def ArrAt.alloc{f}(h:ArrAt w k N f)(I:0<N)o:ArrAt (S w o) k N f:=h.A (eL (h.lt I))
def f3(x y z:oV):Nat->oV
 |0=>x
 |1=>y
 |_=>z
def ArrAt.three(h:ArrAt w k 3 (f3 x y z)):eQ w (az k 0)=Q x/\eQ w (az k 1)=Q y/\eQ w (az k 2)=Q z:=⟨h.cell 0 Oo,h.cell 1 Oo,h.cell 2 Oo⟩
def bSx(a b:Int):AV:=(zSx.set! 0 (ai a)).set! 1 (ai b)
def JR a b w:(Instr.build 250 #[(0,ai a),(1,ai b)]).run wD w=.ok (aQ (bSx a b)) w:=Kv a b w
def qHH(h:o<350):zSx[o]?=Q (if o<330 then ai 0 else oB nF):=by
 unfold zSx;rw[Array.getElem?_append];by_cases e:o<330;rw[fE (by simpa using e),fE e,Array.getElem?_replicate,fE e];rw[fF (by simpa using e),fF e,Array.getElem?_replicate,fE Sy]
def qHI(h:o<350):(bSx a b)[o]?=Q (if o=0 then ai a else if o=1 then ai b else if o<330 then ai 0 else oB nF):=by
 unfold bSx;rw[Array.set!_eq_setIfInBounds,Array.set!_eq_setIfInBounds,pM,pM,qHH h];by_cases I:o=0;subst I;simp[Qn];by_cases K:o=1;subst K;simp[Qn];rw[fF Oo,fF Oo,fF I,fF K]
def qFg a b:(bSx a b).size=350:=by simp[bSx,Qn]
def qFh:zeroCells250=zSx:=Kl
def zl(a b:Int):LV:=(bSx a b).toList
def Kw a b:zl a b=(bSx a b).toList:=rfl
def qFi a b:(zeroCells250.toList.set 0 (ai a)).set 1 (ai b)=zl a b:=by
 rw[qFh];unfold zl bSx;simp
def uE a b:E (zl a b)=350:=by rw[Kw];simpa using qFg a b
def Ux(h:o<350):(zl a b)[o]?=Q (if o=0 then ai a else if o=1 then ai b else if o<330 then ai 0 else oB nF):=by
 rw[Kw,dY];exact qHI h
def qEV a b:∀v∈zl a b,v.oneCell':=by
 intro v hv;have⟨j,I,e⟩:=mem_iff_getElem.1 hv;rw[uE]at I;have:=Ux (a:=a) (b:=b) I;rw[gE (by rw[uE];exact I),e]at this;simp only[oI]at this;rw[this];repeat' split
 all_goals rfl
def Xo a b W g(I:W.there g 0 350):
 (storeCells (az g 0) ((zeroCells250.toList.set 0 (ai a)).set 1 (ai b))).run wD W=.ok () (W.setCells g 0 (zl a b)):=by
 have hl:=uE a b;rw[qFi];exact run_storeCells_cells g 0 _ 0 W (λj K=>by have:=(I j Oo).1;simpa using this) (λj K=>by have:=(I j Oo).2;simpa using this) (qEV a b)
def Ky(m n:Nat)(I:W.there g 0 350):
 (∀o,o<350->eQ (W.setCells g 0 (zl m n)) (az g o)=Q (if o=0 then ai m else if o=1 then ai n else if o<330 then ai 0 else oB nF))/\∀o,o<350->(W.setCells g 0 (zl m n)).frozen? (az g o)=false:=by
 refine⟨λo ho=>?_,λo ho=>?_⟩;have:=tR W g 0 (zl m n) (by rw[uE];exact I) o _ (Ux ho);rwa[cU]at this;have:=(tT I g 0 (zl m n) o ho).2;rwa[cU]at this
def vO g:∀(vs:LV) (o:Nat) (W:oX) (k:Nat),k≠g->(W.setCells g o vs).1[k]?=W.1[k]?
 |[],_,_,_,_=>rfl
 |v::r,o,W,k,h=>by
  rw[setCells,vO g r (o+1) _ k h];exact eG h
def Qo(w:oX)t:(S w (eZ zeroCells250 t)).there (J w.1) 0 350:=by rw[qFh];exact yi w t
structure Z0(W:oX)(g m n i j:Nat):Prop where
 x:eQ W (az g 0)=Q (ai m)
 cols:eQ W (az g 1)=Q (ai n)
 zero:∀a b,a<=m->b<=n->(a<i\/a=i/\b<j)->eQ W (az g (2+a*40+b*2))=Q (ai 0)/\eQ W (az g (2+a*40+b*2+1))=Q (ai 1)
 bas:∀a,a<m->eQ W (az g (322+a))=Q (ai 0)
 bars:∀b,b<n->eQ W (az g (330+b))=Q (oB nF)
 one:∀o,o<350->∃v,eQ W (az g o)=Q v/\v.oneCell'
 L:∀o,o<350->W.frozen? (az g o)=nF
def Z0.zv(M:m<=7)(O:n<=19)(I:∀o,o<350->eQ W (az g o)=Q (if o=0 then ai m else if o=1 then ai n else if o<330 then ai 0 else oB nF))(K:∀o,o<350->W.frozen? (az g o)=nF):Z0 W g m n 0 0 where
 x:=I 0 Oo
 cols:=I 1 Oo
 zero a b _ _ h:=Oo
 bas a ha:=by rw[I (322+a) Oo,fF Oo,fF Oo,fE Oo]
 bars b hb:=by rw[I (330+b) Oo,fF Oo,fF Oo,fF Oo]
 one o ho:=⟨_,I o ho,by(repeat' split) <;> rfl⟩
 L:=K
def Z0.zz(h:Z0 W g m n i j)(hb:Bl W W'):Z0 W' g m n i j:=by
 have M:g<J W.1:=bL W _ h.x;have I:=λo=>hb.cell (p:=az g o) M;exact⟨(I _).trans h.x,(I _).trans h.cols,λa b K hb' hl=>⟨(I _).trans (h.zero a b K hb' hl).1,(I _).trans (h.zero a b K hb' hl).2⟩,λa K=>(I _).trans (h.bas a K),λb hb'=>(I _).trans (h.bars b hb'),λo ho=>by rw[I];exact h.one o ho,λo ho=>(hb.frozen M).trans (h.L o ho)⟩
def Z0.P(h:Z0 W g m n i j)(hi:i<=m)(hj:j<=n)(hm:m<=7)(hn:n<=19):
 Z0 (sW (sW W (az g (2+i*40+j*2)) (ai 0)) (az g (2+i*40+j*2+1)) (ai 1)) g m n i (j+1):=by
 have ne:∀(X:oX) (a b:Nat) (v:oV),a≠b->eQ (sC X g b v) (az g a)=eQ X (az g a):=λX a b v hab=>eE (by intro I;simp only[aI]at I;omega);have⟨v0,c0,_⟩:=h.one (2+i*40+j*2) Oo;have⟨v1,c1,_⟩:=h.one (2+i*40+j*2+1) Oo;have s0:aC (sW (sC W g (2+i*40+j*2) (ai 0)) (az g (2+i*40+j*2+1)) (ai 1)) g (2+i*40+j*2) (ai 0):=(ne _ _ _ _ Oo).trans (eJ c0);have s1:aC (sW (sC W g (2+i*40+j*2) (ai 0)) (az g (2+i*40+j*2+1)) (ai 1)) g (2+i*40+j*2+1) (ai 1):=eJ ((ne _ _ _ _ Oo).trans c1);have oth:∀o,o≠2+i*40+j*2->o≠2+i*40+j*2+1->eQ (sW (sC W g (2+i*40+j*2) (ai 0)) (az g (2+i*40+j*2+1)) (ai 1)) (az g o)=eQ W (az g o):=λo O V=>(ne _ _ _ _ V).trans (ne _ _ _ _ O);refine⟨(oth 0 Oo Oo).trans h.x,(oth 1 Oo Oo).trans h.cols,λa b K hb hl=>?_,λa K=>(oth _ Oo Oo).trans (h.bas a K),λb hb=>(oth _ Oo Oo).trans (h.bars b hb),λo ho=>?_,λo ho=>by rw[fS,fS];exact h.L o ho⟩
 .by_cases e:a=i/\b=j;obtain⟨rfl,rfl⟩:=e;exact⟨s0,s1⟩;have:=h.zero a b K hb Oo;exact⟨(oth _ Oo Oo).trans this.1,(oth _ Oo Oo).trans this.2⟩
 by_cases M:o=2+i*40+j*2;subst M;exact⟨_,s0,rfl⟩;by_cases I:o=2+i*40+j*2+1;subst I;exact⟨_,s1,rfl⟩;rw[oth o M I];exact h.one o ho
def Z0.next(h:Z0 W g m n i (n+1)):Z0 W g m n (i+1) 0:=
 ⟨h.x,h.cols,λa b I hb hl=>h.zero a b I hb Oo,h.bas,h.bars,h.one,h.L⟩
def Z0.done(h:Z0 W g m n (m+1) 0)(K:m<=7)(M:n<=19):SxAt W g m n (λ_ _=>0) (λ_=>0) (λ_=>false):=
 ⟨⟨h.x,h.cols,λi j hi I=>(h.zero i j hi I Oo).1,λi j hi I=>(h.zero i j hi I Oo).2,h.bas,h.bars,h.one,K,M⟩,h.L⟩
def x9(u:Nat)(L:List (LN))(below:Bool)(i q:Nat):NQ:=λa b=>if a<i then yE u L below a b else if a=i/\b∈(U L i []).take q then 1 else 0
def Yy u L below a b:x9 u L below 0 0 a b=0:=by
 unfold x9;rw[fF Oo];simp
def qBx u L below i q(hq:q<E (U L i []))a b:
 x9 u L below i (q+1) a b=if a=i/\b=U (U L i []) q 0 then 1 else x9 u L below i q a b:=by
 unfold x9;by_cases K:a<i;rw[fE K,fF Oo,fE K];rw[fF K,fF K];have V:b∈(U L i []).take (q+1)↔b∈(U L i []).take q\/b=U (U L i []) q 0:=by
  generalize U L i []=l at *;rw[tA,gE hq,gD,gE hq,cF];simp only[iK,cI,dI]
 by_cases I:a=i
 .by_cases M:b=U (U L i []) q 0;rw[fE ⟨I,V.2 (.inr M)⟩,fE ⟨I,M⟩];rw[fF (show ¬(a=i/\b=U (U L i []) q 0) from λh=>M h.2)];by_cases O:b∈(U L i []).take q;rw[fE ⟨I,V.2 (.inl O)⟩,fE ⟨I,O⟩];rw[fF (λh=>by rcases V.1 h.2 with h5|h5;exact O h5;exact M h5),fF (λh=>O h.2)]
 rw[fF (λh=>I h.1),fF (λh=>I h.1),fF (λh=>I h.1)]
def qDU u L(below:Bool)n i(I:n=if below then u+E L+E L else u+E L)(hi:i<E L)(K:∀j∈U L i [],j<u)a b:
 x9 u L below (i+1) 0 a b=if a=i/\b=n then 1 else if a=i/\b=n-E L+i then 1 else if below/\a=i/\b=u+i then -1 else x9 u L below i (E (U L i [])) a b:=by
 have M:∀(l:LN) (x:Nat),l.contains x=oD (x∈l):=λl x=>by
  by_cases hb:x∈l;rw[fD hb];exact contains_iff_mem.2 hb;rw[fC hb];cases M:l.contains x
  rfl;exact absurd (contains_iff_mem.1 M) hb
 unfold x9 yE;simp only[<-I,M,dE,tL];generalize hl:U L i []=l at *;have V:=K;by_cases O:a=i
 .subst O;simp only[hl];cases below
  simp only[nG,rO]at I;grind;simp only[nI]at I;grind
 grind
def qHJ(m n:Nat)(I:Bl w W)(O:W.there (J w.1+1) 0 350)(V:ArrAt W (J w.1) 3 F)(a3:J w.1+1<J W.1)(hb:Bl W w'):
 J w.1+1<J w'.1/\Bl w ((S w' (eZ zeroCells250 t)).setCells (J w'.1) 0 (zl m n))/\((S w' (eZ zeroCells250 t)).setCells (J w'.1) 0 (zl m n)).there (J w.1+1) 0 350/\ArrAt ((S w' (eZ zeroCells250 t)).setCells (J w'.1) 0 (zl m n)) (J w.1) 3 F/\
 (∀o,o<350->eQ ((S w' (eZ zeroCells250 t)).setCells (J w'.1) 0 (zl m n)) (az (J w'.1) o)=Q (if o=0 then ai m else if o=1 then ai n else if o<330 then ai 0 else oB nF))/\∀o,o<350->((S w' (eZ zeroCells250 t)).setCells (J w'.1) 0 (zl m n)).frozen? (az (J w'.1) o)=false:=by
 have hs:=hb.size;have K:Bl w' (aJ w' zeroCells250 t):=aK;have M:=Ky m n (Qo w' t);refine⟨Oo,?_,?_,?_,M.1,M.2⟩;exact yd (O1 I.size) _ _ _ (bt (bt I hb) K);exact tT (qx (qx O hb) K) _ _ _;exact((V.zz Oo hb).alloc Oo _).A (vO _ _ _ _ _ Oo)
def qHK(m n:Nat)(I:Bl w W)(O:W.there (J w.1+1) 0 350)(h3:ArrAt W (J w.1) 3 F)(V:J w.1+1<J W.1)(hb:Below (J (S W (eZ zeroCells250 t)).1) (S W (eZ zeroCells250 t)) w'):
 J w.1+1<J W.1/\Bl w (w'.setCells (J W.1) 0 (zl m n))/\(w'.setCells (J W.1) 0 (zl m n)).there (J w.1+1) 0 350/\ArrAt (w'.setCells (J W.1) 0 (zl m n)) (J w.1) 3 F/\
 (∀o,o<350->eQ (w'.setCells (J W.1) 0 (zl m n)) (az (J W.1) o)=Q (if o=0 then ai m else if o=1 then ai n else if o<330 then ai 0 else oB nF))/\∀o,o<350->(w'.setCells (J W.1) 0 (zl m n)).frozen? (az (J W.1) o)=false:=by
 have K:Bl W (aJ W zeroCells250 t):=aK;have M:=Ky m n (qx (Qo W t) hb);refine⟨V,?_,?_,?_,M.1,M.2⟩;exact yd (O1 I.size) _ _ _ (bt (bt I K) hb);exact tT (qx (qx O K) hb) _ _ _;exact((h3.alloc Oo _).zz Oo hb).A (vO _ _ _ _ _ Oo)
structure STt(w W:oX)(g:Nat)(F:Nat->oV)(m n:Nat)(C:NQ)(B:NN):Prop where
 O:Bl w W
 oth:W.there (J w.1+1) 0 350
 arg:ArrAt W (J w.1) 3 F
 sx:SxAt W g m n C B (λ_=>false)
 gt:J w.1+1<g
def STt.zz(h:STt w W g F m n C B)(hb:Bl W W'):STt w W' g F m n C B:=
 ⟨bt h.O hb,qx h.oth hb,h.arg.zz Oo hb,h.sx.zz hb,h.gt⟩
def STt.put(h:STt w W g F m n C B)(hi:i<=m)(I:j<=n)q:
 STt w (sW (sW W (az g (2+i*40+j*2)) (ai q.num)) (az g (2+i*40+j*2+1)) (ai q.den)) g F m n (λa b=>if a=i/\b=j then q else C a b) B:=
 have K:=h.gt
 ⟨(h.O.setCell (by show J w.1<=g;omega) _).setCell (by show J w.1<=g;omega) _,xm (xm h.oth),(h.arg.A (eG (by show J w.1≠g;omega))).A (eG (by show J w.1≠g;omega)),h.sx.setNum hi I q,K⟩
def STt.bas(h:STt w W g F m n C B)(hi:i<m)b:
 STt w (sW W (az g (322+i)) (ai (b:Nat))) g F m n C (λa=>if a=i then b else B a):=
 have I:=h.gt
 ⟨h.O.setCell (by show J w.1<=g;omega) _,xm h.oth,h.arg.A (eG (by show J w.1≠g;omega)),h.sx.setBas hi b,I⟩
def STt.V(h:STt w W g F m n C B)(I:∀i j,i<=m->j<=n->C' i j=C i j)(hB:∀i,i<m->B' i=B i):STt w W g F m n C' B':=
 ⟨h.O,h.oth,h.arg,h.sx.V I hB (λ_ _=>rfl),h.gt⟩
def STt.cells(h:STt w W g F m n C B)(hi:i<=m)(I:j<=n):
 eQ W (az g (2+i*40+j*2))=Q (ai (C i j).num)/\eQ W (az g (2+i*40+j*2+1))=Q (ai (C i j).den)/\W.frozen? (az g (2+i*40+j*2))=nF/\W.frozen? (az g (2+i*40+j*2+1))=false:=by
 have K:=h.sx.g.mle;have M:=h.sx.g.nle;exact⟨h.sx.g.num i j hi I,h.sx.g.den i j hi I,h.sx.L _ Oo,h.sx.L _ Oo⟩
def Yw{z}(K:z=n-m+i)a:(if a<i+1 then n-m+a else 0)=if a=i then z else if a<i then n-m+a else 0:=by
 by_cases e:a=i;rw[fE Oo,fE e];omega;rw[fF e];by_cases I:a<i;rw[fE Oo,fE I];rw[fF Oo,fF I]
def wrap_small(n:Nat)(h:n<9223372036854775808):IntKind.i64.wrap (n:Int)=n:=by
 simp[IntKind.wrap,IntKind.bits,IntKind.signed];omega
