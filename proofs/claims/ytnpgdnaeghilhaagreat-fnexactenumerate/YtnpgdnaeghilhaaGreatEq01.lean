import Derived.Deep.DeepCutAuto
import Derived.Deep.MidRow
import Derived.Deep.RegionHeld3
import Derived.Test.YtnpgdnaeghilhaaGreatEq00
set_option maxHeartbeats 40000000
set_option maxRecDepth 1000000
namespace Go.Proofs.YtnpgdnaeghilhaaGreat
open Go.Proofs.Tryz Go.RowKit
variable {N a i j k m n:Nat}{bar p:NB}{B:NN}{C:NQ}{q:Rat}{w w':World}
structure Lay(cell:Nat->Option Value)(m n:Nat)(C:NQ)(B:NN)(bar:NB):Prop where
 rows:cell 0=some (ai m)
 cols:cell 1=some (ai n)
 num:∀i j,i<=m->j<=n->cell (2+i*40+j*2)=some (ai (C i j).num)
 den:∀i j,i<=m->j<=n->cell (2+i*40+j*2+1)=some (ai (C i j).den)
 bas:∀i,i<m->cell (322+i)=some (ai (B i:Nat))
 bars:∀j,j<n->cell (330+j)=some (.bool (bar j))
 one:∀o,o<350->∃v,cell o=some v/\v.oneCell'=true
 mle:m<=7
 nle:n<=19
structure SxAt(w:World)(k m n:Nat)(C:NQ)(B:NN)(bar:NB):Prop where
 lay:Lay (λo=>w.cell? (az k o)) m n C B bar
 free:∀o,o<350->w.frozen? (az k o)=false
theorem SxAt.lt(h:SxAt w k m n C B bar):k<w.1.size:=
 bL w _ h.lay.rows
theorem SxAt.move(h:SxAt w k m n C B bar)(hb:w'.1[k]?=w.1[k]?):SxAt w' k m n C B bar:=by
 have I:∀o,w'.cell? (az k o)=w.cell? (az k o):=λo=>bF hb;have K:∀o,w'.frozen? (az k o)=w.frozen? (az k o):=λo=>dA hb;exact⟨by rw[show(λo=>w'.cell? (az k o))=λo=>w.cell? (az k o) from funext I];exact h.lay,λo ho=>by rw[K];exact h.free o ho⟩
theorem SxAt.below(h:SxAt w k m n C B bar)(hb:Bl w w'):SxAt w' k m n C B bar:=
 h.move (hb.block k h.lt)
structure Kb(k:Nat)(w w':World):Prop where
 os:w'.os=w.os
 tape:w'.tape=w.tape
 output:w'.output=w.output
 size:w.1.size<=w'.1.size
 block:∀b,b<w.1.size->b≠k->w'.1[b]?=w.1[b]?
theorem Kb.refl k w:Kb k w w:=⟨rfl,rfl,rfl,eA,λ_ _ _=>rfl⟩
theorem Kb.trans{a b c}(h:Kb k a b)(g:Kb k b c):Kb k a c:=
 ⟨g.os.trans h.os,g.tape.trans h.tape,g.output.trans h.output,bM h.size g.size,λi hi I=>(g.block i (bN hi h.size) I).trans (h.block i hi I)⟩
theorem Kb.of_below(h:Bl w w'):Kb k w w':=⟨h.os,h.tape,h.output,h.size,λb hb _=>h.block b hb⟩
theorem Kb.set(h:Kb k w w')o v:Kb k w (w'.setCell (az k o) v):=
 ⟨h.os,h.tape,h.output,by simpa[World.setCell]using h.size,λb hb I=>(eG I).trans (h.block b hb I)⟩
theorem Kb.drew(h:Kb k w w'):Kb k w w'.drew:=⟨h.os,h.tape,h.output,h.size,h.block⟩
theorem Kb.below(h:Kb k w w')(I:N<=w.1.size)(K:N<=k):Below N w w':=
 ⟨h.os,h.tape,h.output,h.size,λb hb=>h.block b Oo Oo⟩
theorem SxAt.setBar(h:SxAt w k m n C B bar)(V:j<n)b:
 SxAt (w.setCell (az k (330+j)) (.bool b)) k m n C B (λK=>if K=j then b else bar K):=by
 have hn:=h.lay.nle;have hm:=h.lay.mle;have I:∀o,o≠330+j->(sC w k (330+j) (.bool b)).cell? (az k o)=w.cell? (az k o):=λo ho=>
  eE Nq
 have M:aC (sC w k (330+j) (.bool b)) k (330+j) (.bool b):=eJ (h.lay.bars j V);refine⟨⟨?_,?_,λi K hi O=>?_,λi K hi O=>?_,λi hi=>?_,λK O=>?_,λo ho=>?_,hm,hn⟩,λo ho=>by rw[fS];exact h.free o ho⟩;show World.cell? _ (az k 0)=_;rw[I 0 Oo];exact h.lay.rows;show World.cell? _ (az k 1)=_;rw[I 1 Oo];exact h.lay.cols;show World.cell? _ (az k (2+i*40+K*2))=_;rw[I _ Oo];exact h.lay.num i K hi O;show World.cell? _ (az k (2+i*40+K*2+1))=_;rw[I _ Oo];exact h.lay.den i K hi O;show World.cell? _ (az k (322+i))=_;rw[I _ Oo];exact h.lay.bas i hi
 .show World.cell? _ (az k (330+K))=_;by_cases e:K=j;subst e;rw[M,fE rfl];rw[I _ Oo,fF e];exact h.lay.bars K O
 by_cases e:o=330+j;subst e;exact⟨_,M,rfl⟩;have⟨v,h1,h2⟩:=h.lay.one o ho;exact⟨v,(I o e).trans h1,h2⟩
theorem SxAt.setNum(h:SxAt w k m n C B bar)(hi:i<=m)(hj:j<=n)q:
 SxAt ((w.setCell (az k (2+i*40+j*2)) (ai q.num)).setCell (az k (2+i*40+j*2+1)) (ai q.den)) k m n (λK M=>if K=i/\M=j then q else C K M) B bar:=by
 have hn:=h.lay.nle;have hm:=h.lay.mle;have I:∀o,o≠2+i*40+j*2->o≠2+i*40+j*2+1->((w.setCell (az k (2+i*40+j*2)) (ai q.num)).setCell (az k (2+i*40+j*2+1)) (ai q.den)).cell? (az k o)=w.cell? (az k o):=λo h1 h2=>by
  rw[eE Nq,eE Nq]
 have hs1:((sC w k (2+i*40+j*2) (ai q.num)).setCell (az k (2+i*40+j*2+1)) (ai q.den)).cell? (az k (2+i*40+j*2))=some (ai q.num):=by
  rw[eE Nq];exact eJ (h.lay.num i j hi hj)
 have hs2:aC ((sC w k (2+i*40+j*2) (ai q.num)).setCell (az k (2+i*40+j*2+1)) (ai q.den)) k (2+i*40+j*2+1) (ai q.den):=by
  refine bG _ _ _ (u:=ai (C i j).den) ?_;rw[eE Nq];exact h.lay.den i j hi hj
 refine⟨⟨?_,?_,λK M O V=>?_,λK M O V=>?_,λK O=>?_,λM V=>?_,λo ho=>?_,hm,hn⟩,λo ho=>by rw[fS,fS];exact h.free o ho⟩;show World.cell? _ (az k 0)=_;rw[I 0 Oo Oo];exact h.lay.rows;show World.cell? _ (az k 1)=_;rw[I 1 Oo Oo];exact h.lay.cols
 .show World.cell? _ (az k (2+K*40+M*2))=_;by_cases e:K=i/\M=j;obtain⟨rfl,rfl⟩:=e;rw[hs1,fE ⟨rfl,rfl⟩];rw[I _ Oo Oo,fF e];exact h.lay.num K M O V
 .show World.cell? _ (az k (2+K*40+M*2+1))=_;by_cases e:K=i/\M=j;obtain⟨rfl,rfl⟩:=e;rw[hs2,fE ⟨rfl,rfl⟩];rw[I _ Oo Oo,fF e];exact h.lay.den K M O V
 show World.cell? _ (az k (322+K))=_;rw[I _ Oo Oo];exact h.lay.bas K O;show World.cell? _ (az k (330+M))=_;rw[I _ Oo Oo];exact h.lay.bars M V;by_cases e:o=2+i*40+j*2;subst e;exact⟨_,hs1,rfl⟩;by_cases e2:o=2+i*40+j*2+1;subst e2;exact⟨_,hs2,rfl⟩;obtain⟨v,h1,h2⟩:=h.lay.one o ho;exact⟨v,(I o e e2).trans h1,h2⟩
theorem SxAt.congr{C' B' I}(h:SxAt w k m n C B bar)
 (M:∀i j,i<=m->j<=n->C' i j=C i j) (hB:∀i,i<m->B' i=B i) (hb:∀j,j<n->I j=bar j):SxAt w k m n C' B' I:=
 ⟨⟨h.lay.rows,h.lay.cols,λi j hi K=>by rw[M i j hi K];exact h.lay.num i j hi K,λi j hi K=>by rw[M i j hi K];exact h.lay.den i j hi K,
  λi hi=>by rw[hB i hi];exact h.lay.bas i hi,λj K=>by rw[hb j K];exact h.lay.bars j K,h.lay.one,h.lay.mle,h.lay.nle⟩,h.free⟩
theorem ZZ k m n(h:SxAt w k m n C B bar):
 aF 218 #[.pointer (some (az k 0))] w (.tuple #[]) λw'=>Kb k w w'/\SxAt w' k m n C B (λj=>bar j||(decide (j<n)&&decide (0<C m j))):=by
 have hn:=h.lay.nle;have hm:=h.lay.mle;have a5:=h.lay.cols;go_enter func218,ntmps218;go_wp2;go_loopw [7] (λt wr=>∃j:Nat,j<=n/\t=ai j/\Kb k w wr/\SxAt wr k m n C B (λK=>bar K||(decide (K<j)&&decide (0<C m K)))) (λt _=>n-(intOf t).toNat);exact⟨0,eC,rfl,Kb.refl _ _,by simpa using h⟩;obtain⟨j,hj,rfl,hK,hS⟩:=hrel;by_cases a4:j<n
 .have hr:=hS.lay.rows;have M:=hS.lay.num m j eA hj;have O:=hS.lay.den m j eA hj;have i1:(m:Int)<8:=Oo;have i2:(j:Int)<20:=Oo;have i3:=aV a4;have step:∀w',Bl wr w'->Kb k w w'/\SxAt w' k m n C B (λK=>bar K||(decide (K<j)&&decide (0<C m K))):=λw' hb=>⟨hK.trans (Kb.of_below hb),hS.below hb⟩;by_cases hp:0<C m j
  .have hg:(0:Int)<sgR (C m j):=by rw[uY hp];decide
   go_wp2_with fail;go_region_held3 (λw'=>aC w' k 0 (ai m)/\aC w' k (2+m*40+j*2) (ai (C m j).num)/\aC w' k (2+m*40+j*2+1) (ai (C m j).den))
    (first|exact⟨hr,M,O⟩|have I:=hS.lt;exact⟨(hb.cell I).trans hr,(hb.cell I).trans M,(hb.cell I).trans O⟩)
    (first|go_at_call 180;apply (Yr (C m j) _).mono;rintro e w' ⟨rfl,hb⟩)
   have⟨a3,V⟩:=step w' (by exact eB.drew.trans hb);have a7:=V.lay.bars j a4;have a8:=V.free (330+j) Oo;go_wp2;go_roundw
   case rel=>
    refine⟨j+1,Oo,Gg,a3.set _ _,(V.setBar a4 _).congr (λ_ _ _ _=>rfl) (λ_ _=>rfl) (λK a6=>?_)⟩;by_cases e:K=j;subst e;rw[fE rfl];simp[hp];rw[fF e];by_cases e2:K<j;simp[e2,show K<j+1 by omega];simp[e2,show ¬K<j+1 by omega]
   case measure=>simp[intOf];omega
  have hg:decide ((0:Int)<sgR (C m j))=false:=by
   by_cases e:C m j<0;rw[uX e];decide;rw[uZ Rr];decide
  go_wp2_with fail;go_region_held3 (λw'=>aC w' k 0 (ai m)/\aC w' k (2+m*40+j*2) (ai (C m j).num)/\aC w' k (2+m*40+j*2+1) (ai (C m j).den))
   (first|exact⟨hr,M,O⟩|have I:=hS.lt;exact⟨(hb.cell I).trans hr,(hb.cell I).trans M,(hb.cell I).trans O⟩)
   (first|go_at_call 180;apply (Yr (C m j) _).mono;rintro e w' ⟨rfl,hb⟩)
  have⟨a3,V⟩:=step w' (by exact eB.drew.trans hb);go_wp2;go_roundw
  case rel=>
   refine⟨j+1,Oo,Gg,a3,V.congr (λ_ _ _ _=>rfl) (λ_ _=>rfl) (λK a6=>?_)⟩;by_cases e:K=j;subst e;simp[hp];by_cases e2:K<j;simp[e2,show K<j+1 by omega];simp[e2,show ¬K<j+1 by omega]
  case measure=>simp[intOf];omega
 obtain rfl:j=n:=Oo;go_wp2;go_end0
 exact⟨rfl,hK,hS⟩
namespace Cov
theorem first_eq(M:j<n)(I:p j=true)(O:∀i,i<j->p i=false):first p n=some j:=by
 cases hf:first p n with
 |none=>have:=jk hf j M;rw[I]at this;cases this
 |some j'=>
  have⟨h1,K,V⟩:=first_some hf;by_cases e:j'<j;rw[O j' e]at K;cases K
  by_cases e2:j<j';rw[V j e2]at I;cases I
  rw[show j'=j by omega]
theorem first_eq_none(K:∀i,i<n->p i=false):first p n=none:=by
 cases hf:first p n with
 |none=>rfl
 |some j=>
  have⟨M,I,_⟩:=first_some hf;rw[K j M]at I;cases I
def idx:Option Nat->Int
 |none=>-1
 |some j=>j
end Cov
theorem Vp k m n(h:SxAt w k m n C B bar):
 aG 215 #[.pointer (some (az k 0))] w (ai (Cov.idx (Cov.first (λj=>!bar j&&decide (C m j<0)) n))):=by
 have hn:=h.lay.nle;have hm:=h.lay.mle;have a7:=h.lay.cols;have⟨res,V⟩:=Ex (Cov.idx (Cov.first (λj=>!bar j&&decide (C m j<0)) n));rw[<-V];change Hh _ at V;go_enter func215,ntmps215;go_wp2;go_loopw [8] (λt wr=>∃j:Nat,j<=n/\t=ai j/\Bl w wr/\Hh (∀i,i<j->(!bar i&&decide (C m i<0))=false)) (λt _=>n-(intOf t).toNat);exact⟨0,eC,rfl,eB,ay (λi hi=>Oo)⟩;obtain⟨j,hj,rfl,hK,hz⟩:=hrel;have hS:=h.below hK;by_cases a6:j<n
 .have hr:=hS.lay.rows;have M:=hS.lay.num m j eA hj;have O:=hS.lay.den m j eA hj;have K:=hS.lay.bars j a6;have i1:(m:Int)<8:=Oo;have i2:(j:Int)<20:=Oo;have i3:=aV a6;cases hbj:bar j with
  |true=>
   have a3:aC wr k (330+j) (.bool true):=by rw[<-hbj];exact K
   have a5:Hh (∀i,i<j+1->(!bar i&&decide (C m i<0))=false):=λi hi=>by
    by_cases e:i=j;rw[e,hbj];rfl;exact hz i Oo
   clear K hbj hz;go_wp2_with fail;go_quiet (fail)
   go_wp2;go_roundw;exact⟨j+1,Oo,Gg,below_drewN hK _,a5⟩;exact Im
  |false=>
   have a3:aC wr k (330+j) (.bool false):=by rw[<-hbj];exact K
   by_cases hp:C m j<0
   .have hg:sgR (C m j)<0:=by rw[uX hp];decide
    have a4:Hh (res=(j:Int)):=by
     show res=(j:Int);rw[V.o,Cov.first_eq a6 (by rw[hbj];simpa using hp) hz.o];rfl
    clear K hbj hz;go_wp2_with fail;go_region_held3 (λw'=>aC w' k (330+j) (.bool false)/\aC w' k 0 (ai m)/\aC w' k (2+m*40+j*2) (ai (C m j).num)/\aC w' k (2+m*40+j*2+1) (ai (C m j).den))
     (first|exact⟨a3,hr,M,O⟩|have I:=hS.lt;exact⟨(hb.cell I).trans a3,(hb.cell I).trans hr,(hb.cell I).trans M,(hb.cell I).trans O⟩)
     (first|go_at_call 180;apply (Yr (C m j) _).mono;rintro e w' ⟨rfl,hb⟩)
    go_wp2;go_ret;exact⟨qa (by rw[a4.o]),bt hK (eB.drew.trans hb)⟩
   have hg:decide (sgR (C m j)<0)=false:=by
    by_cases e:0<C m j;rw[uY e];decide;rw[uZ Rr];decide
   have a5:Hh (∀i,i<j+1->(!bar i&&decide (C m i<0))=false):=λi hi=>by
    by_cases e:i=j;rw[e,hbj];simpa using hp;exact hz i Oo
   clear K hbj hz;go_wp2_with fail;go_region_held3 (λw'=>aC w' k (330+j) (.bool false)/\aC w' k 0 (ai m)/\aC w' k (2+m*40+j*2) (ai (C m j).num)/\aC w' k (2+m*40+j*2+1) (ai (C m j).den))
    (first|exact⟨a3,hr,M,O⟩|have I:=hS.lt;exact⟨(hb.cell I).trans a3,(hb.cell I).trans hr,(hb.cell I).trans M,(hb.cell I).trans O⟩)
    (first|go_at_call 180;apply (Yr (C m j) _).mono;rintro e w' ⟨rfl,hb⟩)
   go_wp2;go_roundw;exact⟨j+1,Oo,Gg,bt hK (eB.drew.trans hb),a5⟩;exact Im
 obtain rfl:j=n:=Oo;have a4:Hh (res=-1):=by
  show res=-1;rw[V.o,Cov.first_eq_none hz.o];rfl
 clear hz;go_wp2;go_ret;exact⟨qa (by rw[a4.o]),hK⟩
section
variable {w:World} {k m n:Nat} {C:NQ} {B:NN} {bar:NB}
theorem SxAt.drew(h:SxAt w k m n C B bar):SxAt w.drew k m n C B bar:=h.move rfl
theorem SxAt.alloc(h:SxAt w k m n C B bar)o:SxAt (w.alloc o) k m n C B bar:=h.move (eL h.lt)
theorem SxAt.far(h:SxAt w k m n C B bar){o}v(I:a≠k):SxAt (w.setCell (az a o) v) k m n C B bar:=h.move (eG (λe=>I e.symm))
theorem SxAt.at(h:SxAt w k m n C B bar)(hi:i<=m)(I:j<=n):w.cell? (az k (2+i*40+j*2))=some (ai (C i j).num)/\w.cell? (az k (2+i*40+j*2+1))=some (ai (C i j).den):=
 ⟨h.lay.num i j hi I,h.lay.den i j hi I⟩
theorem SxAt.five(h:SxAt w k m n C B bar){c}(hi:i<=m)(I:c<=n):w.cell? (az k 1)=some (ai n)/\w.cell? (az k (2+i*40+n*2))=some (ai (C i n).num)/\w.cell? (az k (2+i*40+n*2+1))=some (ai (C i n).den)/\w.cell? (az k (2+i*40+c*2))=some (ai (C i c).num)/\w.cell? (az k (2+i*40+c*2+1))=some (ai (C i c).den):=
 ⟨h.lay.cols,h.lay.num i n hi eA,h.lay.den i n hi eA,h.lay.num i c hi I,h.lay.den i c hi I⟩
end
theorem Sm.inv{B}(h:Sm B q)(I:q≠0):Sm B q⁻¹:=by
 refine zb (Za I) h.1 ⟨q.den,?_,by rw[zT];exact h.2⟩ eA;have e:=Vr q;rw[<-e];generalize (((q.den:Nat):Int):Rat)=d;grind
def qDI(w wc:World)(v:Value)(q:Rat):Prop:=∃a,v=.pointer (some (az a 0))/\wc.cell? (az a 0)=some (ai q.num)/\wc.cell? (az a 1)=some (ai q.den)/\w.1.size<=a/\a<wc.1.size/\Bl w wc
theorem Yk{t}(h:Bl w w'):qDI w (w'.alloc (.cells #[ai q.num,ai q.den] t)) (.pointer (some (az w'.1.size 0))) q:=
 ⟨w'.1.size,rfl,Sg,Sg,h.size,Ss,h.alloc h.size _⟩
theorem Kc{u v}(h:Bl w w')(I:w.1.size<=a)(K:w'.cell? (az a 0)=some u)(M:w'.cell? (az a 1)=some v):
 qDI w ((w'.setCell (az a 0) (ai q.num)).setCell (az a 1) (ai q.den)) (.pointer (some (az a 0))) q:=by
 refine⟨a,rfl,?_,?_,I,?_,(h.setCell (by simpa using I) _).setCell (by simpa using I) _⟩;rw[eE Ss,eJ K];exact eJ (by rw[eE Ss];exact M);have:=bL _ _ K;simpa using this
theorem jG k m n C B(h:SxAt w k m n C B bar)i o c(hi:i<m)(ho:o<m)(hc:c<n)
 (b7:C i c≠0) (b8:C o c≠0) (K:∀a b,a<=m->b<=n->Sm 41000 (C a b)):
 aG 237 #[.pointer (some (az k 0)),ai i,ai o,ai c] w (.bool (Cov.before C B n c i o)):=by
 have hn:=h.lay.nle;have hm:=h.lay.mle;have d5:=h.lt;have M:=h.lay.cols;have⟨a1,a2⟩:=h.at (i:=i) (j:=n) Oo Oo;have⟨a3,a4⟩:=h.at (i:=i) (j:=c) Oo Oo;have i1:(i:Int)<8:=Oo;have i2:(o:Int)<8:=Oo;have i3:(n:Int)<20:=Oo;have i4:(c:Int)<20:=Oo;have S1:=ay (K i n Oo eA);have S2:=ay (K i c Oo Oo);have S3:=ay (K o n Oo eA);have S4:=ay (K o c Oo Oo);clear K;have I:Hh (Cov.before C B n c i o=if C i n / C i c-C o n / C o c=0 then decide (B i<B o) else decide (C i n / C i c-C o n / C o c<0)):=by
  show Cov.before C B n c i o=_;unfold Cov.before;by_cases e:C i n / C i c=C o n / C o c;rw[fE e,fE Rr];rw[fF e,fF Rr];congr 1;exact propext ⟨λ_=>Rr,λ_=>Rr⟩
 have d1:=h.lay.bas i hi;have Q1:=ay (show Sm _ (C i n / C i c)by rw[Rat.div_def];exact S1.o.mul (Sm.inv S2 b7));have Q2:=ay (show Sm _ (C o n / C o c)by rw[Rat.div_def];exact S3.o.mul (Sm.inv S4 b8));go_enter func237,ntmps237;go_wp2_with fail;go_cut [9] (λv wc=>qDI w wc v (C i n / C i c))
 case first=>
  go_region_held3 (λw'=>aC w' k 1 (ai n)/\aC w' k (2+i*40+n*2) (ai (C i n).num)/\aC w' k (2+i*40+n*2+1) (ai (C i n).den)/\aC w' k (2+i*40+c*2) (ai (C i c).num)/\aC w' k (2+i*40+c*2+1) (ai (C i c).den))
   (first|exact h.drew.five Oo (Oo)|exact(h.drew.below hb).five Oo (Oo)|exact((h.drew.below hb).alloc _).five Oo (Oo)|exact(h.alloc _).drew.five Oo (Oo)|exact((h.alloc _).drew.below hb).five Oo (Oo)|exact((((h.alloc _).drew.below hb).far _ Oo).far _ Oo).five Oo Oo)
   (first|go_at_call 275;apply (qDR _ _ S1.o S2.o Dd b7).mn;intro w' hb;have⟨O,d2⟩:=xi hb;have a8:=hb.size;simp at a8)
  all_goals(go_wp2;go_meet)
  all_goals first
   |exact Yk (eB.drew.trans hb)
   |exact Kc (u:=ai 0) (v:=ai 0) (Below.trans (aK).drew (hb.mono Ss)) eA (by simp[O,go_sem]) (by simp[O,go_sem])
 case rest=>
  obtain⟨p1,rfl,b9,c7,e2,c8,c9⟩:=hcut;have V:=h.below c9;have d3:=V.lt;clear a1 a2 a3 a4 M;obtain⟨wo,rfl⟩:=Ex wc;go_wp2_with fail;go_cut [10] (λv wd=>qDI wo wd v (C o n / C o c))
  case first=>
   have M:=V.lay.cols;have⟨b1,b2⟩:=V.at (i:=o) (j:=n) Oo Oo;have⟨b3,b4⟩:=V.at (i:=o) (j:=c) Oo Oo;go_region_held3 (λw'=>aC w' k 1 (ai n)/\aC w' k (2+o*40+n*2) (ai (C o n).num)/\aC w' k (2+o*40+n*2+1) (ai (C o n).den)/\aC w' k (2+o*40+c*2) (ai (C o c).num)/\aC w' k (2+o*40+c*2+1) (ai (C o c).den))
    (first|exact V.drew.five Oo (Oo)|exact(V.drew.below hb).five Oo (Oo)|exact((V.drew.below hb).alloc _).five Oo (Oo)|exact(V.alloc _).drew.five Oo (Oo)|exact((V.alloc _).drew.below hb).five Oo (Oo)|exact((((V.alloc _).drew.below hb).far _ Oo).far _ Oo).five Oo Oo)
    (first|go_at_call 275;apply (qDR _ _ S3.o S4.o Dd b8).mn;intro w' hb;have⟨O,d2⟩:=xi hb;have a8:=hb.size;simp at a8)
   all_goals(go_wp2;go_meet)
   all_goals first
    |exact Yk (eB.drew.trans hb)
    |exact Kc (u:=ai 0) (v:=ai 0) (Below.trans (aK).drew (hb.mono Ss)) eA (by simp[O,go_sem]) (by simp[O,go_sem])
  case rest=>
   obtain⟨p2,rfl,e3,e4,e5,e6,a5⟩:=hcut;have d6:=(a5.cell c8).trans b9;have d7:=(a5.cell c8).trans c7;have h2:=V.below a5;have d8:=h2.lay.bas i hi;have d9:=h2.lay.bas o ho;clear b9 c7 d1;have d0:=bt c9 a5;have d4:=h2.lt;by_cases hq:C i n / C i c-C o n / C o c=0
   .have hs:(sgR (C i n / C i c-C o n / C o c) != 0)=false:=by rw[uZ hq];decide
    have a9:Hh (Cov.before C B n c i o=decide (B i<B o)):=by
     show _=_;rw[I.o,fE hq]
    clear I hq;go_wp2_with fail;apply (Ys _ _ Q1.o Q2.o Dd).mn;intro w4 a6;go_wp2_with fail;apply (jB _).mn;intro w5 a7;have h5:=(h2.below a6).below a7;have e0:=h5.lay.bas i hi;have e1:=h5.lay.bas o ho;go_wp2_with fail;go_quiet (fail)
    go_wp2;go_ret;refine⟨?_,below_drewN (bt d0 (bt a6 a7)) _⟩;rw[a9.o];congr 2
   have hs:(sgR (C i n / C i c-C o n / C o c) != 0)=true:=by
    by_cases e:C i n / C i c-C o n / C o c<0;rw[uX e];decide;rw[uY Rr];decide
   have a9:Hh (Cov.before C B n c i o=decide (sgR (C i n / C i c-C o n / C o c)<0)):=by
    show _=_;rw[I.o,fF hq];by_cases e:C i n / C i c-C o n / C o c<0;rw[uX e];simpa using e;rw[uY Rr];simpa using e
   clear I hq;go_wp2_with fail;apply (Ys _ _ Q1.o Q2.o Dd).mn;intro w4 a6;go_wp2_with fail;apply (jB _).mn;intro w5 a7;go_wp2;go_ret;refine⟨?_,bt d0 (bt a6 a7)⟩;rw[a9.o];rfl
theorem Km{p}c(I:c<0):
 aG 216 #[p,ai c] w (ai (-1)):=by
 go_enter func216,ntmps216;go_wp2;go_ret;exact⟨rfl,eB⟩
theorem Kn k m n(h:SxAt w k m n C B bar)c(hc:c<n)(a7:∀a b,a<=m->b<=n->Sm 41000 (C a b)):
 aG 216 #[.pointer (some (az k 0)),ai c] w (ai (Cov.idx (Cov.best (λi=>decide (0<C i c)) (Cov.before C B n c) m))):=by
 have hn:=h.lay.nle;have hm:=h.lay.mle;have a9:=h.lay.rows;change Hh _ at a7;obtain⟨I,O⟩:=Ex (Cov.best _ _);have a4:Hh (∀i,I (i+1)=match I i with|none=>if decide (0<C i c) then some i else none|some b=>if decide (0<C i c)&&Cov.before C B n c i b then some i else some b):=by
  intro i;rw[O];rfl
 have a5:Hh (∀i b,I i=some b->b<i/\0<C b c):=by
  intro i b hb;rw[O]at hb;obtain⟨h1,h2,_⟩:=Cov.best_some hb;exact⟨h1,h2⟩
 have hzero:Hh (I 0=none):=by rw[O];exact rfl
 rw[<-O];clear O;have i2:(c:Int)<20:=Oo;have i0:¬((c:Int)<0):=Oo;go_enter func216,ntmps216;go_wp2;go_loopw [5,14] (λt u wr=>∃i:Nat,i<=m/\u=ai i/\t=ai (Cov.idx (I i))/\Bl w wr) (λ_ u _=>m-(intOf u).toNat);exact⟨0,eC,rfl,by rw[hzero.o];rfl,eB⟩;obtain⟨i,hi,rfl,rfl,hK⟩:=hrel;have hS:=h.below hK;by_cases a8:i<m
 .have i3:=aV a8;have i4:(i:Int)<8:=Oo;obtain⟨a1,a2⟩:=hS.at (j:=c) Oo Oo;have hst:=ay (a4 i);by_cases hp:0<C i c
  .have hg:(0:Int)<sgR (C i c):=by rw[uY hp];decide
   have HP:=ay hp;cases hb:I i with
   |none=>
    have K:Hh (I (i+1)=some i):=by
     show _=_;rw[hst.o,hb];simp only[HP.o,decide_true,if_true]
    have e0:Cov.idx (I i)=-1:=by rw[hb];rfl
    rw[<-hb,e0];clear hb e0 hp;go_wp2_with (go_at_call 180;apply (jB (C i c)).mono;rintro e w' ⟨rfl,M⟩);go_roundw;exact⟨i+1,Oo,Gg,by rw[K.o];rfl,bt hK M⟩;exact Im
   |some b=>
    obtain⟨b7,b1⟩:=a5 i b hb;change Hh _ at hb;have e0:Cov.idx (I i)=(b:Int):=by rw[hb];rfl
    rw[<-hb,e0];clear e0;have j1:¬((b:Int)<0):=Oo;have V:C i c≠0:=Rr;have a3:C b c≠0:=Rr;clear hp b1;cases hbf:Cov.before C B n c i b with
    |true=>
     have K:Hh (I (i+1)=some i):=by
      show _=_;rw[hst.o,hb.o];simp only[HP.o,decide_true,dG];rw[hbf];rfl
     have HF:=ay hbf;clear hbf;go_wp2_with fail;apply (jB (C i c)).mn;intro w1 M;go_wp2_with fail;apply (jG k m n C B (hS.below M) i b c a8 Oo hc V a3 a7.o).mn;intro w2 a6;rw[HF.o];go_wp2;go_roundw;exact⟨i+1,Oo,Gg,by rw[K.o];rfl,bt hK (bt M a6)⟩;exact Im
    |false=>
     have K:Hh (I (i+1)=some b):=by
      show _=_;rw[hst.o,hb.o];simp only[HP.o,decide_true,Bool.true_and];rw[hbf];rfl
     have HF:=ay hbf;clear hbf;go_wp2_with fail;apply (jB (C i c)).mn;intro w1 M;go_wp2_with fail;apply (jG k m n C B (hS.below M) i b c a8 Oo hc V a3 a7.o).mn;intro w2 a6;rw[HF.o];go_wp2;go_roundw;exact⟨i+1,Oo,Gg,by rw[K.o];rfl,bt hK (bt M a6)⟩;exact Im
  have hg:decide ((0:Int)<sgR (C i c))=false:=by
   by_cases e:C i c<0;rw[uX e];decide;rw[uZ Rr];decide
  have K:Hh (I (i+1)=I i):=by
   show _=_;rw[hst.o];cases I i <;> simp[hp]
  clear hp;go_wp2_with (go_at_call 180;apply (jB (C i c)).mono;rintro e w' ⟨rfl,M⟩);go_roundw;exact⟨i+1,Oo,Gg,by rw[K.o],bt hK M⟩;exact Im
 obtain rfl:i=m:=Oo;go_wp2;go_ret;exact⟨rfl,hK⟩
theorem Vo n w:
 aG 212 #[ai n] w (.agg #[ai (n:Rat).num,ai (n:Rat).den]):=by
 go_enter func212,ntmps212;go_wp2_with fail;apply (qIq 0 0 n).mn;intro w1 hb;have⟨I,K⟩:=xi hb;have c0:aC w1 w.1.size 0 (ai 0):=(I _ 0 Sy).trans Sg;have c1:aC w1 w.1.size 1 (ai 0):=(I _ 1 Sy).trans Sg;have f0:w1.frozen? (az w.1.size 0)=false:=(K _ 0 Sy).trans Sg;have f1:w1.frozen? (az w.1.size 1)=false:=(K _ 1 Sy).trans Sg;go_wp2;refine aU (by simp[results,results212,go_sem,c0,c1]) rfl ⟨rfl,?_⟩;exact((below_alloc2 hb).setCell eA _).setCell eA _
structure ArrAt(w:World)(k N:Nat)(f:Nat->Value):Prop where
 cell:∀j,j<N->w.cell? (az k j)=some (f j)
 free:∀j,j<N->w.frozen? (az k j)=false
def zL(N:Nat)(f:Nat->Value):LV:=(List.range N).map f
theorem jA N f:(zL N f).length=N:=by simp[zL]
theorem Ki{f}(I:j<N):(zL N f)[j]?=some (f j):=by
 unfold zL;rw[bK,List.getElem?_range I];rfl
theorem ArrAt.range{f}(h:ArrAt w k N f):w.rangeAt k 0 (zL N f):=by
 intro j v hv;have I:j<N:=by rw[<-jA N f];exact(List.getElem?_eq_some_iff.1 hv).1
 rw[Ki I]at hv;simp only[oI]at hv;rw[cU,h.cell j I,hv]
theorem ArrAt.there{f}(h:ArrAt w k N f):w.there k 0 N:=by
 intro j I;rw[cU,h.cell j I];exact⟨rfl,h.free j I⟩
theorem ArrAt.set{f}(h:ArrAt w k N f)(hi:i<N)v:ArrAt (w.setCell (az k i) v) k N (λj=>if j=i then v else f j):=by
 refine⟨λj I=>?_,λj I=>by rw[fS];exact h.free j I⟩;by_cases e:j=i;subst e;rw[fE rfl];exact eJ (h.cell j I);rw[fF e,eE (by intro K;simp only[Addr.mk.injEq]at K;omega)];exact h.cell j I
theorem ArrAt.lt{f}(h:ArrAt w k N f)(I:0<N):k<w.1.size:=bL w _ (h.cell 0 I)
theorem ArrAt.move{f}(h:ArrAt w k N f)(hb:w'.1[k]?=w.1[k]?):ArrAt w' k N f:=
 ⟨λj I=>(bF hb).trans (h.cell j I),λj I=>(dA hb).trans (h.free j I)⟩
theorem qj(w:World)N f t:ArrAt (w.alloc (.cells (zL N f).toArray t)) w.1.size N f:=by
 have hb:=dZ w (.cells (zL N f).toArray t);refine⟨λj I=>?_,λj I=>?_⟩;rw[eI hb];simpa using Ki I;unfold World.frozen?;rw[hb];simp
def xh(a b:Nat)(v:Int)(j:Nat):Int:=if a<=j/\j<b then v else 0
def qR(a b:Nat)(v:Int):LV:=zL 20 (λj=>ai (xh a b v j))
theorem Yn:(Tryz.prog.info? 253).map (·.size)=some 20:=Kl
theorem qBp w:(Instr.alloc 253 true (.tuple #[])).run Tryz.prog w=.ok (.pointer (some (az w.1.size 0))) (w.alloc (.cells (zL 20 (λ_=>ai 0)).toArray 253)):=Kl
theorem qDM{op:Oper}{a}{K:Act->WP}{Q:Exit->Act->WP}(ho:op.op=.alloc 253)
 (h:K (a.put op.dst (.pointer (some (az w.1.size 0)))) (w.alloc (.cells (zL 20 (λ_=>ai 0)).toArray 253))):op.wp Tryz.prog a w K Q:=by
 unfold Oper.wp execOp;simp only[ho,Sem.run_bind,Sem.run_pure,Result.andThen_ok,qBp];exact h
theorem QR{ops rest op a}{Q:Exit->Act->WP}(I:op.guard=none)(ho:op.op=.alloc 253)
 (h:wpList Tryz.prog ops Q rest (a.put op.dst (.pointer (some (az w.1.size 0)))) (w.alloc (.cells (zL 20 (λ_=>ai 0)).toArray 253))):wpList Tryz.prog ops Q (op::rest) a w:=
 wpList_plain I λ_ K=>qDM ho (K _ _ h)
end Go.Proofs.YtnpgdnaeghilhaaGreat
