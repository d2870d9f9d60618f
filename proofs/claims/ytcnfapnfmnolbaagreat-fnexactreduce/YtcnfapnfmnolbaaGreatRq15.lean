import Derived.Deep.DeepCutAuto
import Derived.Deep.MidRow
import Derived.Deep.RegionHeld3
import Derived.Test.YtcnfapnfmnolbaaGreatRq02
set_option maxHeartbeats 40000000
set_option maxRecDepth 1000000
namespace Go.Proofs.YtcnfapnfmnolbaaGreat
open Go.RowKit
variable {N a i j k m n:Nat}{bar p:Nat->Bool}{B:Nat->Nat}{C:Nat->Nat->Rat}{q:Rat}{w w':World}
structure Lay(cell:Nat->Option Value)(m n:Nat)(C:Nat->Nat->Rat)(B:Nat->Nat)(bar:Nat->Bool):Prop where
 rows:cell 0=some (ai m)
 cols:cell 1=some (ai n)
 num:∀i j,i<=m->j<=n->cell (2+i*40+j*2)=some (ai (C i j).num)
 den:∀i j,i<=m->j<=n->cell (2+i*40+j*2+1)=some (ai (C i j).den)
 bas:∀i,i<m->cell (322+i)=some (ai (B i:Nat))
 bars:∀j,j<n->cell (330+j)=some (.bool (bar j))
 one:∀o,o<350->∃v,cell o=some v/\v.oneCell'=true
 mle:m<=7
 nle:n<=19
structure SxAt(w:World)(k m n:Nat)(C:Nat->Nat->Rat)(B:Nat->Nat)(bar:Nat->Bool):Prop where
 lay:Lay (λo=>w.cell? (az k o)) m n C B bar
 free:∀o,o<350->w.frozen? (az k o)=false
theorem SxAt.lt(h:SxAt w k m n C B bar):k<w.1.size:=
 bL w _ h.lay.rows
theorem SxAt.move(h:SxAt w k m n C B bar)(hb:w'.1[k]?=w.1[k]?):SxAt w' k m n C B bar:=by
 have I:∀o,w'.cell? (az k o)=w.cell? (az k o):=λo=>bF (w:=w) hb;have K:∀o,w'.frozen? (az k o)=w.frozen? (az k o):=λo=>World.frozen?_of_block (w:=w) hb;exact⟨by rw[show(λo=>w'.cell? (az k o))=λo=>w.cell? (az k o) from funext I];exact h.lay,λo ho=>by rw[K];exact h.free o ho⟩
theorem SxAt.below(h:SxAt w k m n C B bar)(hb:Bl w w'):SxAt w' k m n C B bar:=
 h.move (hb.block k h.lt)
structure Kb(k:Nat)(w w':World):Prop where
 os:w'.os=w.os
 tape:w'.tape=w.tape
 output:w'.output=w.output
 size:w.1.size<=w'.1.size
 block:∀b,b<w.1.size->b≠k->w'.1[b]?=w.1[b]?
theorem Kb.refl(k:Nat)(w:World):Kb k w w:=⟨rfl,rfl,rfl,nR _,λ_ _ _=>rfl⟩
theorem Kb.trans{a b c:World}(h:Kb k a b)(g:Kb k b c):Kb k a c:=
 ⟨g.os.trans h.os,g.tape.trans h.tape,g.output.trans h.output,bM h.size g.size,λi hi I=>(g.block i (bN hi h.size) I).trans (h.block i hi I)⟩
theorem Kb.of_below(h:Bl w w'):Kb k w w':=⟨h.os,h.tape,h.output,h.size,λb hb _=>h.block b hb⟩
theorem Kb.set(h:Kb k w w')(o:Nat)(v:Value):Kb k w (w'.setCell (az k o) v):=
 ⟨h.os,h.tape,h.output,by simpa[World.setCell]using h.size,λb hb I=>(bD _ _ _ _ I).trans (h.block b hb I)⟩
theorem Kb.drew(h:Kb k w w'):Kb k w w'.drew:=⟨h.os,h.tape,h.output,h.size,h.block⟩
theorem Kb.below(h:Kb k w w')(I:N<=w.1.size)(K:N<=k):Below N w w':=
 ⟨h.os,h.tape,h.output,h.size,λb hb=>h.block b Oo Oo⟩
theorem SxAt.setBar(h:SxAt w k m n C B bar)(U:j<n)(b:Bool):
 SxAt (w.setCell (az k (330+j)) (.bool b)) k m n C B (λK=>if K=j then b else bar K):=by
 have V:=h.lay.nle;have hm:=h.lay.mle;have I:∀o,o≠330+j->(w.setCell (az k (330+j)) (.bool b)).cell? (az k o)=w.cell? (az k o):=λo ho=>
  bC _ _ _ _ Nq
 have M:(w.setCell (az k (330+j)) (.bool b)).cell? (az k (330+j))=some (.bool b):=bG _ _ _ (h.lay.bars j U);refine⟨⟨?_,?_,λi K hi O=>?_,λi K hi O=>?_,λi hi=>?_,λK O=>?_,λo ho=>?_,hm,V⟩,λo ho=>by rw[fS];exact h.free o ho⟩;show World.cell? _ (az k 0)=_;rw[I 0 Oo];exact h.lay.rows;show World.cell? _ (az k 1)=_;rw[I 1 Oo];exact h.lay.cols;show World.cell? _ (az k (2+i*40+K*2))=_;rw[I _ Oo];exact h.lay.num i K hi O;show World.cell? _ (az k (2+i*40+K*2+1))=_;rw[I _ Oo];exact h.lay.den i K hi O;show World.cell? _ (az k (322+i))=_;rw[I _ Oo];exact h.lay.bas i hi
 ·show World.cell? _ (az k (330+K))=_;by_cases e:K=j;subst e;rw[M,if_pos rfl];rw[I _ Oo,if_neg e];exact h.lay.bars K O
 by_cases e:o=330+j;subst e;exact⟨_,M,rfl⟩;obtain⟨v,h1,h2⟩:=h.lay.one o ho;exact⟨v,(I o e).trans h1,h2⟩
theorem SxAt.setNum(h:SxAt w k m n C B bar)(hi:i<=m)(hj:j<=n)(q:Rat):
 SxAt ((w.setCell (az k (2+i*40+j*2)) (ai q.num)).setCell (az k (2+i*40+j*2+1)) (ai q.den)) k m n (λK M=>if K=i/\M=j then q else C K M) B bar:=by
 have hn:=h.lay.nle;have hm:=h.lay.mle;have I:∀o,o≠2+i*40+j*2->o≠2+i*40+j*2+1->((w.setCell (az k (2+i*40+j*2)) (ai q.num)).setCell (az k (2+i*40+j*2+1)) (ai q.den)).cell? (az k o)=w.cell? (az k o):=λo h1 h2=>by
  rw[bC _ _ _ _ Nq,bC _ _ _ _ Nq]
 have V:((w.setCell (az k (2+i*40+j*2)) (ai q.num)).setCell (az k (2+i*40+j*2+1)) (ai q.den)).cell? (az k (2+i*40+j*2))=some (ai q.num):=by
  rw[bC _ _ _ _ Nq];exact bG _ _ _ (h.lay.num i j hi hj)
 have a3:((w.setCell (az k (2+i*40+j*2)) (ai q.num)).setCell (az k (2+i*40+j*2+1)) (ai q.den)).cell? (az k (2+i*40+j*2+1))=some (ai q.den):=by
  refine bG _ _ _ (u:=ai (C i j).den) ?_;rw[bC _ _ _ _ Nq];exact h.lay.den i j hi hj
 refine⟨⟨?_,?_,λK M O U=>?_,λK M O U=>?_,λK O=>?_,λM U=>?_,λo ho=>?_,hm,hn⟩,λo ho=>by rw[fS,fS];exact h.free o ho⟩;show World.cell? _ (az k 0)=_;rw[I 0 Oo Oo];exact h.lay.rows;show World.cell? _ (az k 1)=_;rw[I 1 Oo Oo];exact h.lay.cols
 ·show World.cell? _ (az k (2+K*40+M*2))=_;by_cases e:K=i/\M=j;obtain⟨rfl,rfl⟩:=e;rw[V,if_pos ⟨rfl,rfl⟩];rw[I _ Oo Oo,if_neg e];exact h.lay.num K M O U
 ·show World.cell? _ (az k (2+K*40+M*2+1))=_;by_cases e:K=i/\M=j;obtain⟨rfl,rfl⟩:=e;rw[a3,if_pos ⟨rfl,rfl⟩];rw[I _ Oo Oo,if_neg e];exact h.lay.den K M O U
 show World.cell? _ (az k (322+K))=_;rw[I _ Oo Oo];exact h.lay.bas K O;show World.cell? _ (az k (330+M))=_;rw[I _ Oo Oo];exact h.lay.bars M U;by_cases e:o=2+i*40+j*2;subst e;exact⟨_,V,rfl⟩;by_cases e2:o=2+i*40+j*2+1;subst e2;exact⟨_,a3,rfl⟩;obtain⟨v,h1,h2⟩:=h.lay.one o ho;exact⟨v,(I o e e2).trans h1,h2⟩
theorem SxAt.congr{C':Nat->Nat->Rat}{B':Nat->Nat}{I:Nat->Bool}(h:SxAt w k m n C B bar)
 (M:∀i j,i<=m->j<=n->C' i j=C i j) (hB:∀i,i<m->B' i=B i) (hb:∀j,j<n->I j=bar j):SxAt w k m n C' B' I:=
 ⟨⟨h.lay.rows,h.lay.cols,λi j hi K=>by rw[M i j hi K];exact h.lay.num i j hi K,λi j hi K=>by rw[M i j hi K];exact h.lay.den i j hi K,
  λi hi=>by rw[hB i hi];exact h.lay.bas i hi,λj K=>by rw[hb j K];exact h.lay.bars j K,h.lay.one,h.lay.mle,h.lay.nle⟩,h.free⟩
theorem Qc(w:World)(k m n:Nat)(C:Nat->Nat->Rat)(B:Nat->Nat)(bar:Nat->Bool)(h:SxAt w k m n C B bar):
 Cl 177 #[.pointer (some (az k 0))] w λe w'=>e=.returned (.tuple #[])/\Kb k w w'/\SxAt w' k m n C B (λj=>bar j||(decide (j<n)&&decide (0<C m j))):=by
 have hn:=h.lay.nle;have hm:=h.lay.mle;have a5:w.cell? (az k 1)=some (ai n):=h.lay.cols;go_enter Tryz.func177,Tryz.ntmps177;go_wp2_with fail;go_loopw [7] (λt wr=>∃j:Nat,j<=n/\t=ai j/\Kb k w wr/\SxAt wr k m n C B (λK=>bar K||(decide (K<j)&&decide (0<C m K)))) (λt _=>n-(intOf t).toNat);exact⟨0,nZ _,rfl,Kb.refl _ _,by simpa using h⟩;obtain⟨j,hj,rfl,hK,V⟩:=hrel;by_cases a4:j<n
 ·have hr:wr.cell? (az k 0)=some (ai m):=V.lay.rows;have M:wr.cell? (az k (2+m*40+j*2))=some (ai (C m j).num):=V.lay.num m j (nR _) hj;have O:wr.cell? (az k (2+m*40+j*2+1))=some (ai (C m j).den):=V.lay.den m j (nR _) hj;have i1:(m:Int)<8:=Oo;have i2:(j:Int)<20:=Oo;have i3:(j:Int)<(n:Int):=Oo;have step:∀w',Bl wr w'->Kb k w w'/\SxAt w' k m n C B (λK=>bar K||(decide (K<j)&&decide (0<C m K))):=λw' hb=>⟨hK.trans (Kb.of_below hb),V.below hb⟩;by_cases hp:0<C m j
  ·have hg:(0:Int)<sgR (C m j):=by rw[vk hp];decide
   go_wp2_with fail;go_region_held3 (λw'=>w'.cell? (az k 0)=some (ai m)/\w'.cell? (az k (2+m*40+j*2))=some (ai (C m j).num)/\w'.cell? (az k (2+m*40+j*2+1))=some (ai (C m j).den))
    (first|exact⟨hr,M,O⟩|(have I:=V.lt;exact⟨(hb.cell (p:=(az k 0)) I).trans hr,(hb.cell (p:=(az k (2+m*40+j*2))) I).trans M,(hb.cell (p:=(az k (2+m*40+j*2+1))) I).trans O⟩))
    (first|(go_at_call 151;refine(Xm (C m j) _).mono ?_;rintro e w' ⟨rfl,hb⟩))
   obtain⟨a3,U⟩:=step w' (by exact(bJ _ _).drew.trans hb);have a7:w'.cell? (az k (330+j))=some (.bool (bar j||(decide (j<j)&&decide (0<C m j)))):=U.lay.bars j a4;have a8:w'.frozen? (az k (330+j))=false:=U.free (330+j) Oo;go_wp2;go_roundw
   case rel=>
    refine⟨j+1,Oo,Gg,a3.set _ _,(U.setBar a4 true).congr (λ_ _ _ _=>rfl) (λ_ _=>rfl) (λK a6=>?_)⟩;by_cases e:K=j;subst e;rw[if_pos rfl];simp[hp];rw[if_neg e];by_cases e2:K<j;simp[e2,show K<j+1 by omega];simp[e2,show ¬K<j+1 by omega]
   case measure=>simp[intOf];omega
  have hg:decide ((0:Int)<sgR (C m j))=false:=by
   by_cases e:C m j<0;rw[vi e];decide;rw[vm Rr];decide
  go_wp2_with fail;go_region_held3 (λw'=>w'.cell? (az k 0)=some (ai m)/\w'.cell? (az k (2+m*40+j*2))=some (ai (C m j).num)/\w'.cell? (az k (2+m*40+j*2+1))=some (ai (C m j).den))
   (first|exact⟨hr,M,O⟩|(have I:=V.lt;exact⟨(hb.cell (p:=(az k 0)) I).trans hr,(hb.cell (p:=(az k (2+m*40+j*2))) I).trans M,(hb.cell (p:=(az k (2+m*40+j*2+1))) I).trans O⟩))
   (first|(go_at_call 151;refine(Xm (C m j) _).mono ?_;rintro e w' ⟨rfl,hb⟩))
  obtain⟨a3,U⟩:=step w' (by exact(bJ _ _).drew.trans hb);go_wp2;go_roundw
  case rel=>
   refine⟨j+1,Oo,Gg,a3,U.congr (λ_ _ _ _=>rfl) (λ_ _=>rfl) (λK a6=>?_)⟩;by_cases e:K=j;subst e;simp[hp];by_cases e2:K<j;simp[e2,show K<j+1 by omega];simp[e2,show ¬K<j+1 by omega]
  case measure=>simp[intOf];omega
 obtain rfl:j=n:=Oo;go_wp2;go_end0
 exact⟨rfl,hK,V⟩
namespace Cov
theorem first_eq(M:j<n)(I:p j=true)(O:∀i,i<j->p i=false):first p n=some j:=by
 cases hf:first p n with
 |none=>have:=uv hf j M;rw[I]at this;cases this
 |some j'=>
  obtain⟨h1,K,U⟩:=first_some hf;by_cases e:j'<j;rw[O j' e]at K;cases K
  by_cases V:j<j';rw[U j V]at I;cases I
  rw[show j'=j by omega]
theorem first_eq_none(K:∀i,i<n->p i=false):first p n=none:=by
 cases hf:first p n with
 |none=>rfl
 |some j=>
  obtain⟨M,I,_⟩:=first_some hf;rw[K j M]at I;cases I
def idx:Option Nat->Int
 |none=>-1
 |some j=>j
end Cov
theorem Yl(w:World)(k m n:Nat)(C:Nat->Nat->Rat)(B:Nat->Nat)(bar:Nat->Bool)(h:SxAt w k m n C B bar):
 Cl 174 #[.pointer (some (az k 0))] w λe w'=>e=.returned (ai (Cov.idx (Cov.first (λj=>!bar j&&decide (C m j<0)) n)))/\Bl w w':=by
 have hn:=h.lay.nle;have hm:=h.lay.mle;have a6:w.cell? (az k 1)=some (ai n):=h.lay.cols;obtain⟨res,U⟩:=Ex (Cov.idx (Cov.first (λj=>!bar j&&decide (C m j<0)) n));rw[<-U];have HR:=ay U;clear U;go_enter Tryz.func174,Tryz.ntmps174;go_wp2_with fail;go_loopw [8] (λt wr=>∃j:Nat,j<=n/\t=ai j/\Bl w wr/\Hh (∀i,i<j->(!bar i&&decide (C m i<0))=false)) (λt _=>n-(intOf t).toNat);exact⟨0,nZ _,rfl,bJ _ _,ay (λi hi=>Oo)⟩;obtain⟨j,hj,rfl,hK,hz⟩:=hrel;have hS:=h.below hK;by_cases a5:j<n
 ·have hr:wr.cell? (az k 0)=some (ai m):=hS.lay.rows;have M:wr.cell? (az k (2+m*40+j*2))=some (ai (C m j).num):=hS.lay.num m j (nR _) hj;have O:wr.cell? (az k (2+m*40+j*2+1))=some (ai (C m j).den):=hS.lay.den m j (nR _) hj;have K:=hS.lay.bars j a5;have i1:(m:Int)<8:=Oo;have i2:(j:Int)<20:=Oo;have i3:(j:Int)<(n:Int):=Oo;cases hbj:bar j with
  |true=>
   have V:wr.cell? (az k (330+j))=some (.bool true):=by rw[<-hbj];exact K
   have a4:Hh (∀i,i<j+1->(!bar i&&decide (C m i<0))=false):=λi hi=>by
    by_cases e:i=j;rw[e,hbj];rfl;exact hz.o i Oo
   clear K hbj hz;go_wp2_with fail;go_quiet (fail)
   go_wp2;go_roundw;exact⟨j+1,Oo,Gg,below_drewN hK _,a4⟩;exact Im
  |false=>
   have V:wr.cell? (az k (330+j))=some (.bool false):=by rw[<-hbj];exact K
   by_cases hp:C m j<0
   ·have hg:sgR (C m j)<0:=by rw[vi hp];decide
    have a3:Hh (res=(j:Int)):=by
     show res=(j:Int);rw[HR.o,Cov.first_eq a5 (by rw[hbj];simpa using hp) hz.o];rfl
    clear K hbj hz;go_wp2_with fail;go_region_held3 (λw'=>w'.cell? (az k (330+j))=some (.bool false)/\w'.cell? (az k 0)=some (ai m)/\w'.cell? (az k (2+m*40+j*2))=some (ai (C m j).num)/\w'.cell? (az k (2+m*40+j*2+1))=some (ai (C m j).den))
     (first|exact⟨V,hr,M,O⟩|(have I:=hS.lt;exact⟨(hb.cell (p:=(az k (330+j))) I).trans V,(hb.cell (p:=(az k 0)) I).trans hr,(hb.cell (p:=(az k (2+m*40+j*2))) I).trans M,(hb.cell (p:=(az k (2+m*40+j*2+1))) I).trans O⟩))
     (first|(go_at_call 151;refine(Xm (C m j) _).mono ?_;rintro e w' ⟨rfl,hb⟩))
    go_wp2;go_ret;exact⟨qR (by rw[a3.o]),bt hK ((bJ _ _).drew.trans hb)⟩
   have hg:decide (sgR (C m j)<0)=false:=by
    by_cases e:0<C m j;rw[vk e];decide;rw[vm Rr];decide
   have a4:Hh (∀i,i<j+1->(!bar i&&decide (C m i<0))=false):=λi hi=>by
    by_cases e:i=j;rw[e,hbj];simpa using hp;exact hz.o i Oo
   clear K hbj hz;go_wp2_with fail;go_region_held3 (λw'=>w'.cell? (az k (330+j))=some (.bool false)/\w'.cell? (az k 0)=some (ai m)/\w'.cell? (az k (2+m*40+j*2))=some (ai (C m j).num)/\w'.cell? (az k (2+m*40+j*2+1))=some (ai (C m j).den))
    (first|exact⟨V,hr,M,O⟩|(have I:=hS.lt;exact⟨(hb.cell (p:=(az k (330+j))) I).trans V,(hb.cell (p:=(az k 0)) I).trans hr,(hb.cell (p:=(az k (2+m*40+j*2))) I).trans M,(hb.cell (p:=(az k (2+m*40+j*2+1))) I).trans O⟩))
    (first|(go_at_call 151;refine(Xm (C m j) _).mono ?_;rintro e w' ⟨rfl,hb⟩))
   go_wp2;go_roundw;exact⟨j+1,Oo,Gg,bt hK ((bJ _ _).drew.trans hb),a4⟩;exact Im
 obtain rfl:j=n:=Oo;have a3:Hh (res=-1):=by
  show res=-1;rw[HR.o,Cov.first_eq_none hz.o];rfl
 clear hz;go_wp2;go_ret;exact⟨qR (by rw[a3.o]),hK⟩
section
variable {w:World} {k m n:Nat} {C:Nat->Nat->Rat} {B:Nat->Nat} {bar:Nat->Bool}
theorem SxAt.drew(h:SxAt w k m n C B bar):SxAt w.drew k m n C B bar:=h.move rfl
theorem SxAt.alloc(h:SxAt w k m n C B bar)(o:Obj):SxAt (w.alloc o) k m n C B bar:=h.move (Below.heap_alloc _ _ _ h.lt)
theorem SxAt.far(h:SxAt w k m n C B bar){o:Nat}(v:Value)(I:a≠k):SxAt (w.setCell (az a o) v) k m n C B bar:=h.move (bD _ _ _ _ (λe=>I e.symm))
theorem SxAt.at(h:SxAt w k m n C B bar)(hi:i<=m)(I:j<=n):w.cell? (az k (2+i*40+j*2))=some (ai (C i j).num)/\w.cell? (az k (2+i*40+j*2+1))=some (ai (C i j).den):=
 ⟨h.lay.num i j hi I,h.lay.den i j hi I⟩
theorem SxAt.five(h:SxAt w k m n C B bar){c:Nat}(hi:i<=m)(I:c<=n):w.cell? (az k 1)=some (ai n)/\w.cell? (az k (2+i*40+n*2))=some (ai (C i n).num)/\w.cell? (az k (2+i*40+n*2+1))=some (ai (C i n).den)/\w.cell? (az k (2+i*40+c*2))=some (ai (C i c).num)/\w.cell? (az k (2+i*40+c*2+1))=some (ai (C i c).den):=
 ⟨h.lay.cols,h.lay.num i n hi (nR _),h.lay.den i n hi (nR _),h.lay.num i c hi I,h.lay.den i c hi I⟩
end
theorem Sm.inv{B:Nat}(h:Sm B q)(I:q≠0):Sm B q⁻¹:=by
 refine zV (D:=q.num) (Z:=B) (Qd I) h.1 ⟨q.den,?_,by rw[zP];exact h.2⟩ (nR _);have e:=Yn q;rw[<-e];generalize (((q.den:Nat):Int):Rat)=d;grind
def qBZ(w wc:World)(v:Value)(q:Rat):Prop:=∃a,v=.pointer (some (az a 0))/\wc.cell? (az a 0)=some (ai q.num)/\wc.cell? (az a 1)=some (ai q.den)/\w.1.size<=a/\a<wc.1.size/\Bl w wc
theorem Xf{t:TypeId}(h:Bl w w'):qBZ w (w'.alloc (.cells #[ai q.num,ai q.den] t)) (.pointer (some (az w'.1.size 0))) q:=
 ⟨w'.1.size,rfl,Sg,Sg,h.size,Ss,h.alloc h.size _⟩
theorem Uu{u v:Value}(h:Bl w w')(I:w.1.size<=a)(K:w'.cell? (az a 0)=some u)(M:w'.cell? (az a 1)=some v):
 qBZ w ((w'.setCell (az a 0) (ai q.num)).setCell (az a 1) (ai q.den)) (.pointer (some (az a 0))) q:=by
 refine⟨a,rfl,?_,?_,I,?_,(h.setCell (by simpa using I) _).setCell (by simpa using I) _⟩;rw[bC _ _ _ _ Ss,bG _ _ _ K];exact bG _ _ _ (by rw[bC _ _ _ _ Ss];exact M);have:=bL w' _ K;simpa using this
theorem uQ(w:World)(k m n:Nat)(C:Nat->Nat->Rat)(B:Nat->Nat)(bar:Nat->Bool)(h:SxAt w k m n C B bar)(i o c:Nat)(hi:i<m)(ho:o<m)(hc:c<n)
 (a9:C i c≠0) (b0:C o c≠0) (K:∀a b,a<=m->b<=n->Sm 41000 (C a b)):
 Cl 206 #[.pointer (some (az k 0)),ai i,ai o,ai c] w λe w'=>e=.returned (.bool (Cov.before C B n c i o))/\Bl w w':=by
 have hn:=h.lay.nle;have hm:=h.lay.mle;have d3:=h.lt;have M:w.cell? (az k 1)=some (ai n):=h.lay.cols;obtain⟨a1,a2⟩:=h.at (i:=i) (j:=n) Oo Oo;obtain⟨a3,a4⟩:=h.at (i:=i) (j:=c) Oo Oo;have i1:(i:Int)<8:=Oo;have i2:(o:Int)<8:=Oo;have i3:(n:Int)<20:=Oo;have i4:(c:Int)<20:=Oo;have S1:=ay (K i n Oo (nR _));have S2:=ay (K i c Oo Oo);have S3:=ay (K o n Oo (nR _));have S4:=ay (K o c Oo Oo);clear K;have I:Hh (Cov.before C B n c i o=if C i n / C i c-C o n / C o c=0 then decide (B i<B o) else decide (C i n / C i c-C o n / C o c<0)):=by
  show Cov.before C B n c i o=_;unfold Cov.before;by_cases e:C i n / C i c=C o n / C o c;rw[if_pos e,if_pos Rr];rw[if_neg e,if_neg Rr];congr 1;exact propext ⟨λ_=>Rr,λ_=>Rr⟩
 have c9:w.cell? (az k (322+i))=some (ai (B i:Nat)):=h.lay.bas i hi;have Q1:=ay (show Sm (41000*41000) (C i n / C i c)by rw[Rat.div_def];exact S1.o.mul (Sm.inv S2.o a9));have Q2:=ay (show Sm (41000*41000) (C o n / C o c)by rw[Rat.div_def];exact S3.o.mul (Sm.inv S4.o b0));go_enter Tryz.func206,Tryz.ntmps206;go_wp2_with fail;go_cut [9] (λv wc=>qBZ w wc v (C i n / C i c))
 case first=>
  go_region_held3 (λw'=>w'.cell? (az k 1)=some (ai n)/\w'.cell? (az k (2+i*40+n*2))=some (ai (C i n).num)/\w'.cell? (az k (2+i*40+n*2+1))=some (ai (C i n).den)/\w'.cell? (az k (2+i*40+c*2))=some (ai (C i c).num)/\w'.cell? (az k (2+i*40+c*2+1))=some (ai (C i c).den))
   (first|exact h.drew.five Oo (Oo)|exact(h.drew.below hb).five Oo (Oo)|exact((h.drew.below hb).alloc _).five Oo (Oo)|exact(h.alloc _).drew.five Oo (Oo)|exact((h.alloc _).drew.below hb).five Oo (Oo)|exact((((h.alloc _).drew.below hb).far _ Oo).far _ Oo).five Oo Oo)
   (first|(go_at_call 234;refine(qBi (C i n) (C i c) _ S1.o S2.o Dd a9).mono ?_;rintro e w' ⟨rfl,hb⟩;obtain⟨O,d0⟩:=xO hb;have a7:=hb.size;simp at a7))
  all_goals(go_wp2_with fail;go_meet)
  all_goals first
   |exact Xf ((bJ _ _).drew.trans hb)
   |exact Uu (u:=ai 0) (v:=ai 0) (Below.trans (aK).drew (hb.mono Ss)) (nR _) (by simp[O,go_sem]) (by simp[O,go_sem])
 case rest=>
  obtain⟨p1,rfl,b7,b8,e0,b9,c7⟩:=hcut;have U:=h.below c7;have d1:=U.lt;clear a1 a2 a3 a4 M;obtain⟨wo,rfl⟩:=Ex (wc:World);go_wp2_with fail;go_cut [10] (λv wd=>qBZ wo wd v (C o n / C o c))
  case first=>
   have M:=U.lay.cols;obtain⟨b1,b2⟩:=U.at (i:=o) (j:=n) Oo Oo;obtain⟨b3,b4⟩:=U.at (i:=o) (j:=c) Oo Oo;go_region_held3 (λw'=>w'.cell? (az k 1)=some (ai n)/\w'.cell? (az k (2+o*40+n*2))=some (ai (C o n).num)/\w'.cell? (az k (2+o*40+n*2+1))=some (ai (C o n).den)/\w'.cell? (az k (2+o*40+c*2))=some (ai (C o c).num)/\w'.cell? (az k (2+o*40+c*2+1))=some (ai (C o c).den))
    (first|exact U.drew.five Oo (Oo)|exact(U.drew.below hb).five Oo (Oo)|exact((U.drew.below hb).alloc _).five Oo (Oo)|exact(U.alloc _).drew.five Oo (Oo)|exact((U.alloc _).drew.below hb).five Oo (Oo)|exact((((U.alloc _).drew.below hb).far _ Oo).far _ Oo).five Oo Oo)
    (first|(go_at_call 234;refine(qBi (C o n) (C o c) _ S3.o S4.o Dd b0).mono ?_;rintro e w' ⟨rfl,hb⟩;obtain⟨O,d0⟩:=xO hb;have a7:=hb.size;simp at a7))
   all_goals(go_wp2_with fail;go_meet)
   all_goals first
    |exact Xf ((bJ _ _).drew.trans hb)
    |exact Uu (u:=ai 0) (v:=ai 0) (Below.trans (aK).drew (hb.mono Ss)) (nR _) (by simp[O,go_sem]) (by simp[O,go_sem])
  case rest=>
   obtain⟨p2,rfl,e1,e2,e3,e4,V⟩:=hcut;have d4:wc.cell? (az p1 0)=some (ai (C i n / C i c).num):=(V.cell (p:=(az p1 0)) b9).trans b7;have d5:wc.cell? (az p1 1)=some (ai (C i n / C i c).den):=(V.cell (p:=(az p1 1)) b9).trans b8;have h2:=U.below V;have d6:wc.cell? (az k (322+i))=some (ai (B i:Nat)):=h2.lay.bas i hi;have d7:wc.cell? (az k (322+o))=some (ai (B o:Nat)):=h2.lay.bas o ho;clear b7 b8 c9;have c8:=bt c7 V;have d2:=h2.lt;by_cases hq:C i n / C i c-C o n / C o c=0
   ·have hs:(sgR (C i n / C i c-C o n / C o c) != 0)=false:=by rw[vm hq];decide
    have a8:Hh (Cov.before C B n c i o=decide (B i<B o)):=by
     show _=_;rw[I.o,if_pos hq]
    clear I hq;go_wp2_with fail;refine(Xn _ _ _ Q1.o Q2.o Dd).mono ?_;rintro e w4 ⟨rfl,a5⟩;go_wp2_with fail;refine(uN _ _).mono ?_;rintro e w5 ⟨rfl,a6⟩;have h5:=(h2.below a5).below a6;have d8:w5.cell? (az k (322+i))=some (ai (B i:Nat)):=h5.lay.bas i hi;have d9:w5.cell? (az k (322+o))=some (ai (B o:Nat)):=h5.lay.bas o ho;go_wp2_with fail;go_quiet (fail)
    go_wp2;go_ret;refine⟨?_,below_drewN (bt c8 (bt a5 a6)) _⟩;rw[a8.o];congr 2
   have hs:(sgR (C i n / C i c-C o n / C o c) != 0)=true:=by
    by_cases e:C i n / C i c-C o n / C o c<0;rw[vi e];decide;rw[vk Rr];decide
   have a8:Hh (Cov.before C B n c i o=decide (sgR (C i n / C i c-C o n / C o c)<0)):=by
    show _=_;rw[I.o,if_neg hq];by_cases e:C i n / C i c-C o n / C o c<0;rw[vi e];simpa using e;rw[vk Rr];simpa using e
   clear I hq;go_wp2_with fail;refine(Xn _ _ _ Q1.o Q2.o Dd).mono ?_;rintro e w4 ⟨rfl,a5⟩;go_wp2_with fail;refine(uN _ _).mono ?_;rintro e w5 ⟨rfl,a6⟩;go_wp2;go_ret;refine⟨?_,bt c8 (bt a5 a6)⟩;rw[a8.o];rfl
theorem U1(w:World)(p:Value)(c:Int)(I:c<0):
 Cl 175 #[p,ai c] w λe w'=>e=.returned (ai (-1))/\Bl w w':=by
 go_enter Tryz.func175,Tryz.ntmps175;go_wp2;go_ret;exact⟨rfl,bJ _ _⟩
theorem U2(w:World)(k m n:Nat)(C:Nat->Nat->Rat)(B:Nat->Nat)(bar:Nat->Bool)(h:SxAt w k m n C B bar)(c:Nat)(hc:c<n)(a7:∀a b,a<=m->b<=n->Sm 41000 (C a b)):
 Cl 175 #[.pointer (some (az k 0)),ai c] w λe w'=>e=.returned (ai (Cov.idx (Cov.best (λi=>decide (0<C i c)) (Cov.before C B n c) m)))/\Bl w w':=by
 have hn:=h.lay.nle;have hm:=h.lay.mle;have a9:w.cell? (az k 0)=some (ai m):=h.lay.rows;have S1:=ay a7;clear a7;obtain⟨I,O⟩:=Ex (Cov.best (λi=>decide (0<C i c)) (Cov.before C B n c):Nat->Option Nat);have a4:Hh (∀i,I (i+1)=match I i with|none=>if decide (0<C i c) then some i else none|some b=>if decide (0<C i c)&&Cov.before C B n c i b then some i else some b):=by
  intro i;rw[O];rfl
 have a5:Hh (∀i b,I i=some b->b<i/\0<C b c):=by
  intro i b hb;rw[O]at hb;obtain⟨h1,h2,_⟩:=Cov.best_some hb;exact⟨h1,h2⟩
 have hzero:Hh (I 0=none):=by rw[O];exact rfl
 rw[<-O];clear O;have i2:(c:Int)<20:=Oo;have i0:¬((c:Int)<0):=Oo;go_enter Tryz.func175,Tryz.ntmps175;go_wp2_with fail;go_loopw [5,14] (λt u wr=>∃i:Nat,i<=m/\u=ai i/\t=ai (Cov.idx (I i))/\Bl w wr) (λ_ u _=>m-(intOf u).toNat);exact⟨0,nZ _,rfl,by rw[hzero.o];rfl,bJ _ _⟩;obtain⟨i,hi,rfl,rfl,hK⟩:=hrel;have hS:=h.below hK;by_cases a8:i<m
 ·have i3:(i:Int)<(m:Int):=Oo;have i4:(i:Int)<8:=Oo;obtain⟨a1,a2⟩:=hS.at (i:=i) (j:=c) Oo Oo;have U:=ay (a4.o i);by_cases hp:0<C i c
  ·have hg:(0:Int)<sgR (C i c):=by rw[vk hp];decide
   have HP:=ay hp;cases hb:I i with
   |none=>
    have K:Hh (I (i+1)=some i):=by
     show _=_;rw[U.o,hb];simp only[HP.o,decide_true,if_true]
    have e0:Cov.idx (I i)=-1:=by rw[hb];rfl
    rw[<-hb,e0];clear hb e0 hp;go_wp2_with (first|(go_at_call 151;refine(uN (C i c) _).mono ?_;rintro e w' ⟨rfl,M⟩));go_roundw;exact⟨i+1,Oo,Gg,by rw[K.o];rfl,bt hK M⟩;exact Im
   |some b=>
    obtain⟨b1,b0⟩:=a5.o i b hb;have HB:=ay hb;have e0:Cov.idx (I i)=(b:Int):=by rw[hb];rfl
    rw[<-hb,e0];clear hb e0;have j1:¬((b:Int)<0):=Oo;have V:C i c≠0:=Rr;have a3:C b c≠0:=Rr;clear hp b0;cases hbf:Cov.before C B n c i b with
    |true=>
     have K:Hh (I (i+1)=some i):=by
      show _=_;rw[U.o,HB.o];simp only[HP.o,decide_true,Bool.true_and];rw[hbf];rfl
     have HF:=ay hbf;clear hbf;go_wp2_with fail;refine(uN (C i c) _).mono ?_;rintro e w1 ⟨rfl,M⟩;go_wp2_with fail;refine(uQ _ k m n C B bar (hS.below M) i b c a8 Oo hc V a3 S1.o).mono ?_;rintro e w2 ⟨rfl,a6⟩;rw[HF.o];go_wp2_with fail;go_roundw;exact⟨i+1,Oo,Gg,by rw[K.o];rfl,bt hK (bt M a6)⟩;exact Im
    |false=>
     have K:Hh (I (i+1)=some b):=by
      show _=_;rw[U.o,HB.o];simp only[HP.o,decide_true,Bool.true_and];rw[hbf];rfl
     have HF:=ay hbf;clear hbf;go_wp2_with fail;refine(uN (C i c) _).mono ?_;rintro e w1 ⟨rfl,M⟩;go_wp2_with fail;refine(uQ _ k m n C B bar (hS.below M) i b c a8 Oo hc V a3 S1.o).mono ?_;rintro e w2 ⟨rfl,a6⟩;rw[HF.o];go_wp2_with fail;go_roundw;exact⟨i+1,Oo,Gg,by rw[K.o];rfl,bt hK (bt M a6)⟩;exact Im
  have hg:decide ((0:Int)<sgR (C i c))=false:=by
   by_cases e:C i c<0;rw[vi e];decide;rw[vm Rr];decide
  have K:Hh (I (i+1)=I i):=by
   show _=_;rw[U.o];cases I i <;> simp[hp]
  clear hp;go_wp2_with (first|(go_at_call 151;refine(uN (C i c) _).mono ?_;rintro e w' ⟨rfl,M⟩));go_roundw;exact⟨i+1,Oo,Gg,by rw[K.o],bt hK M⟩;exact Im
 obtain rfl:i=m:=Oo;go_wp2;go_ret;exact⟨rfl,hK⟩
theorem Yk(n:Int)(w:World):
 Cl 171 #[ai n] w λe w'=>e=.returned (.agg #[ai (n:Rat).num,ai (n:Rat).den])/\Bl w w':=by
 go_enter Tryz.func171,Tryz.ntmps171;go_wp2_with fail;refine(qGN 0 0 n _).mono ?_;rintro e w1 ⟨rfl,hb⟩;obtain⟨I,K⟩:=xO hb;have c0:w1.cell? (az w.1.size 0)=some (ai 0):=(I _ 0 Sy).trans Sg;have c1:w1.cell? (az w.1.size 1)=some (ai 0):=(I _ 1 Sy).trans Sg;have f0:w1.frozen? (az w.1.size 0)=false:=(K _ 0 Sy).trans Sg;have f1:w1.frozen? (az w.1.size 1)=false:=(K _ 1 Sy).trans Sg;go_wp2;refine bodyPost_ret (v:=.agg #[ai (n:Rat).num,ai (n:Rat).den]) (by simp[results,Tryz.results171,go_sem,c0,c1]) rfl ⟨rfl,?_⟩;exact((below_alloc2 hb).setCell (nR _) _).setCell (nR _) _
structure ArrAt(w:World)(k N:Nat)(f:Nat->Value):Prop where
 cell:∀j,j<N->w.cell? (az k j)=some (f j)
 free:∀j,j<N->w.frozen? (az k j)=false
def zI(N:Nat)(f:Nat->Value):List Value:=(List.range N).map f
theorem uM(N:Nat)(f:Nat->Value):(zI N f).length=N:=by simp[zI]
theorem Uy{f:Nat->Value}(I:j<N):(zI N f)[j]?=some (f j):=by
 unfold zI;rw[bK,List.getElem?_range I];rfl
theorem ArrAt.range{f:Nat->Value}(h:ArrAt w k N f):w.rangeAt k 0 (zI N f):=by
 intro j v hv;have I:j<N:=by rw[<-uM N f];exact(List.getElem?_eq_some_iff.1 hv).1
 rw[Uy I]at hv;simp only[Option.some.injEq]at hv;rw[Nat.zero_add,h.cell j I,hv]
theorem ArrAt.there{f:Nat->Value}(h:ArrAt w k N f):w.there k 0 N:=by
 intro j I;rw[Nat.zero_add,h.cell j I];exact⟨rfl,h.free j I⟩
theorem ArrAt.set{f:Nat->Value}(h:ArrAt w k N f)(hi:i<N)(v:Value):ArrAt (w.setCell (az k i) v) k N (λj=>if j=i then v else f j):=by
 refine⟨λj I=>?_,λj I=>by rw[fS];exact h.free j I⟩;by_cases e:j=i;subst e;rw[if_pos rfl];exact bG _ _ _ (h.cell j I);rw[if_neg e,bC _ _ _ _ (by intro K;simp only[Addr.mk.injEq]at K;omega)];exact h.cell j I
theorem ArrAt.lt{f:Nat->Value}(h:ArrAt w k N f)(I:0<N):k<w.1.size:=bL w _ (h.cell 0 I)
theorem ArrAt.move{f:Nat->Value}(h:ArrAt w k N f)(hb:w'.1[k]?=w.1[k]?):ArrAt w' k N f:=
 ⟨λj I=>(bF (w:=w) (a:=(az k j)) hb).trans (h.cell j I),λj I=>(World.frozen?_of_block (w:=w) (a:=(az k j)) hb).trans (h.free j I)⟩
theorem zG(w:World)(N:Nat)(f:Nat->Value)(t:TypeId):ArrAt (w.alloc (.cells (zI N f).toArray t)) w.1.size N f:=by
 have hb:=heap_alloc_new w (.cells (zI N f).toArray t);refine⟨λj I=>?_,λj I=>?_⟩;rw[cell_of_row _ _ _ _ _ _ hb];simpa using Uy I;unfold World.frozen?;rw[hb];simp
def xA(a b:Nat)(v:Int)(j:Nat):Int:=if a<=j/\j<b then v else 0
def qM(a b:Nat)(v:Int):List Value:=zI 20 (λj=>ai (xA a b v j))
theorem Xi:(Tryz.prog.info? 197).map (·.size)=some 20:=Kl
theorem qAG(w:World):(Instr.alloc 197 true (.tuple #[])).run Tryz.prog w=.ok (.pointer (some (az w.1.size 0))) (w.alloc (.cells (zI 20 (λ_=>ai 0)).toArray 197)):=Kl
theorem qBd{op:Oper}{a:Act}{K:Act->World->Prop}{Q:Exit->Act->World->Prop}(ho:op.op=.alloc 197)
 (h:K (a.put op.dst (.pointer (some (az w.1.size 0)))) (w.alloc (.cells (zI 20 (λ_=>ai 0)).toArray 197))):op.wp Tryz.prog a w K Q:=by
 unfold Oper.wp execOp;simp only[ho,Sem.run_bind,Sem.run_pure,Result.andThen_ok,qAG];exact h
theorem jz{ops:Array Oper}{rest:List Oper}{op:Oper}{a:Act}{Q:Exit->Act->World->Prop}(I:op.guard=none)(ho:op.op=.alloc 197)
 (h:wpList Tryz.prog ops Q rest (a.put op.dst (.pointer (some (az w.1.size 0)))) (w.alloc (.cells (zI 20 (λ_=>ai 0)).toArray 197))):wpList Tryz.prog ops Q (op::rest) a w:=
 wpList_plain I λ_ K=>qBd ho (K _ _ h)
end Go.Proofs.YtcnfapnfmnolbaaGreat
