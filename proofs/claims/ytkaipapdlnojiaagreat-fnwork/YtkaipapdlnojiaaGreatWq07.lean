import Derived.Deep.DeepCutAuto
import Derived.Deep.MidRow
import Derived.Deep.RegionHeld3
import Derived.Test.YtkaipapdlnojiaaGreatWq04
set_option maxHeartbeats 40000000
set_option maxRecDepth 1000000
namespace Go.Proofs.YtkaipapdlnojiaaGreat
open Go.RowKit
variable {a i j k m n:Nat}{bar p:Nat->Bool}{B:Nat->Nat}{C:Nat->Nat->Rat}{q:Rat}{w w':World}
structure Lay(cell:Nat->Option Value)(m n:Nat)(C:Nat->Nat->Rat)(B:Nat->Nat)(bar:Nat->Bool):Prop where
 rows:cell 0=some (.int .i64 m)
 cols:cell 1=some (.int .i64 n)
 num:∀i j,i<=m->j<=n->cell (2+i*40+j*2)=some (.int .i64 (C i j).num)
 den:∀i j,i<=m->j<=n->cell (2+i*40+j*2+1)=some (.int .i64 (C i j).den)
 bas:∀i,i < m->cell (322+i)=some (.int .i64 (B i:Nat))
 bars:∀j,j < n->cell (330+j)=some (.bool (bar j))
 one:∀o,o < 350->∃v,cell o=some v/\v.oneCell'=true
 mle:m<=7
 nle:n<=19
structure SxAt(w:World)(k m n:Nat)(C:Nat->Nat->Rat)(B:Nat->Nat)(bar:Nat->Bool):Prop where
 lay:Lay (λo=>w.cell? ⟨k,o,none⟩) m n C B bar
 free:∀o,o < 350->w.frozen? ⟨k,o,none⟩=false
theorem SxAt.lt(h:SxAt w k m n C B bar):k < w.heap.size:=
 bL w _ h.lay.rows
theorem SxAt.move(h:SxAt w k m n C B bar)(hb:w'.heap[k]?=w.heap[k]?):SxAt w' k m n C B bar:=by
 have I:∀o,w'.cell? ⟨k,o,none⟩=w.cell? ⟨k,o,none⟩:=λo=>bF (w:=w) hb;have K:∀o,w'.frozen? ⟨k,o,none⟩=w.frozen? ⟨k,o,none⟩:=λo=>World.frozen?_of_block (w:=w) hb;exact⟨by rw[show(λo=>w'.cell? ⟨k,o,none⟩)=λo=>w.cell? ⟨k,o,none⟩ from funext I];exact h.lay,λo M=>by rw[K];exact h.free o M⟩
theorem SxAt.below(h:SxAt w k m n C B bar)(hb:Bl w w'):SxAt w' k m n C B bar:=
 h.move (hb.block k h.lt)
structure Kb(k:Nat)(w w':World):Prop where
 os:w'.os=w.os
 tape:w'.tape=w.tape
 output:w'.output=w.output
 size:w.heap.size<=w'.heap.size
 block:∀b,b < w.heap.size->b≠k->w'.heap[b]?=w.heap[b]?
theorem Kb.refl(k:Nat)(w:World):Kb k w w:=⟨rfl,rfl,rfl,bK _,λ_ _ _=>rfl⟩
theorem Kb.trans{a b c:World}(h:Kb k a b)(g:Kb k b c):Kb k a c:=
 ⟨g.os.trans h.os,g.tape.trans h.tape,g.output.trans h.output,bQ h.size g.size,λi hi I=>(g.block i (bV hi h.size) I).trans (h.block i hi I)⟩
theorem Kb.of_below(h:Bl w w'):Kb k w w':=⟨h.os,h.tape,h.output,h.size,λb hb _=>h.block b hb⟩
theorem Kb.set(h:Kb k w w')(o:Nat)(v:Value):Kb k w (w'.setCell ⟨k,o,none⟩ v):=
 ⟨h.os,h.tape,h.output,by simpa[World.setCell]using h.size,λb hb I=>(bE _ _ _ _ I).trans (h.block b hb I)⟩
theorem Kb.drew(h:Kb k w w'):Kb k w w'.drew:=⟨h.os,h.tape,h.output,h.size,h.block⟩
theorem Kb.below{N:Nat}(h:Kb k w w')(I:N<=w.heap.size)(K:N<=k):Below N w w':=
 ⟨h.os,h.tape,h.output,h.size,λb hb=>h.block b Oo Oo⟩
theorem SxAt.setBar(h:SxAt w k m n C B bar)(V:j < n)(b:Bool):
 SxAt (w.setCell ⟨k,330+j,none⟩ (.bool b)) k m n C B (λK=>if K=j then b else bar K):=by
 have hn:=h.lay.nle;have hm:=h.lay.mle
 have I:∀o,o≠330+j->(w.setCell ⟨k,330+j,none⟩ (.bool b)).cell? ⟨k,o,none⟩=w.cell? ⟨k,o,none⟩:=λo U=>
  bD _ _ _ _ (by intro e;simp only[Addr.mk.injEq]at e;omega)
 have M:(w.setCell ⟨k,330+j,none⟩ (.bool b)).cell? ⟨k,330+j,none⟩=some (.bool b):=bI _ _ _ (h.lay.bars j V);refine⟨⟨?_,?_,λi K hi O=>?_,λi K hi O=>?_,λi hi=>?_,λK O=>?_,λo U=>?_,hm,hn⟩,λo U=>by rw[fS];exact h.free o U⟩
 ·show World.cell? _ ⟨k,0,none⟩=_;rw[I 0 Oo];exact h.lay.rows
 ·show World.cell? _ ⟨k,1,none⟩=_;rw[I 1 Oo];exact h.lay.cols
 ·show World.cell? _ ⟨k,2+i*40+K*2,none⟩=_;rw[I _ Oo];exact h.lay.num i K hi O
 ·show World.cell? _ ⟨k,2+i*40+K*2+1,none⟩=_;rw[I _ Oo];exact h.lay.den i K hi O
 ·show World.cell? _ ⟨k,322+i,none⟩=_;rw[I _ Oo];exact h.lay.bas i hi
 ·show World.cell? _ ⟨k,330+K,none⟩=_;by_cases e:K=j
  ·subst e;rw[M,if_pos rfl]
  ·rw[I _ Oo,if_neg e];exact h.lay.bars K O
 ·by_cases e:o=330+j
  ·subst e;exact⟨_,M,rfl⟩
  ·obtain⟨v,h1,h2⟩:=h.lay.one o U;exact⟨v,(I o e).trans h1,h2⟩
theorem SxAt.setNum(h:SxAt w k m n C B bar)(hi:i<=m)(hj:j<=n)(q:Rat):
 SxAt ((w.setCell ⟨k,2+i*40+j*2,none⟩ (.int .i64 q.num)).setCell ⟨k,2+i*40+j*2+1,none⟩ (.int .i64 q.den)) k m n (λK M=>if K=i/\M=j then q else C K M) B bar:=by
 have hn:=h.lay.nle;have hm:=h.lay.mle
 have I:∀o,o≠2+i*40+j*2->o≠2+i*40+j*2+1->((w.setCell ⟨k,2+i*40+j*2,none⟩ (.int .i64 q.num)).setCell ⟨k,2+i*40+j*2+1,none⟩ (.int .i64 q.den)).cell? ⟨k,o,none⟩=w.cell? ⟨k,o,none⟩:=λo h1 h2=>by
  rw[bD _ _ _ _ (by intro e;simp only[Addr.mk.injEq]at e;omega),bD _ _ _ _ (by intro e;simp only[Addr.mk.injEq]at e;omega)]
 have V:((w.setCell ⟨k,2+i*40+j*2,none⟩ (.int .i64 q.num)).setCell ⟨k,2+i*40+j*2+1,none⟩ (.int .i64 q.den)).cell? ⟨k,2+i*40+j*2,none⟩=some (.int .i64 q.num):=by
  rw[bD _ _ _ _ (by intro e;simp only[Addr.mk.injEq]at e;omega)];exact bI _ _ _ (h.lay.num i j hi hj)
 have a2:((w.setCell ⟨k,2+i*40+j*2,none⟩ (.int .i64 q.num)).setCell ⟨k,2+i*40+j*2+1,none⟩ (.int .i64 q.den)).cell? ⟨k,2+i*40+j*2+1,none⟩=some (.int .i64 q.den):=by
  refine bI _ _ _ (u:=.int .i64 (C i j).den) ?_;rw[bD _ _ _ _ (by intro e;simp only[Addr.mk.injEq]at e;omega)];exact h.lay.den i j hi hj
 refine⟨⟨?_,?_,λK M O U=>?_,λK M O U=>?_,λK O=>?_,λM U=>?_,λo ho=>?_,hm,hn⟩,λo ho=>by rw[fS,fS];exact h.free o ho⟩
 ·show World.cell? _ ⟨k,0,none⟩=_;rw[I 0 Oo Oo];exact h.lay.rows
 ·show World.cell? _ ⟨k,1,none⟩=_;rw[I 1 Oo Oo];exact h.lay.cols
 ·show World.cell? _ ⟨k,2+K*40+M*2,none⟩=_;by_cases e:K=i/\M=j
  ·obtain⟨rfl,rfl⟩:=e;rw[V,if_pos ⟨rfl,rfl⟩]
  ·rw[I _ Oo Oo,if_neg e];exact h.lay.num K M O U
 ·show World.cell? _ ⟨k,2+K*40+M*2+1,none⟩=_;by_cases e:K=i/\M=j
  ·obtain⟨rfl,rfl⟩:=e;rw[a2,if_pos ⟨rfl,rfl⟩]
  ·rw[I _ Oo Oo,if_neg e];exact h.lay.den K M O U
 ·show World.cell? _ ⟨k,322+K,none⟩=_;rw[I _ Oo Oo];exact h.lay.bas K O
 ·show World.cell? _ ⟨k,330+M,none⟩=_;rw[I _ Oo Oo];exact h.lay.bars M U
 ·by_cases e:o=2+i*40+j*2
  ·subst e;exact⟨_,V,rfl⟩
  ·by_cases e2:o=2+i*40+j*2+1
   ·subst e2;exact⟨_,a2,rfl⟩
   ·obtain⟨v,h1,h2⟩:=h.lay.one o ho;exact⟨v,(I o e e2).trans h1,h2⟩
theorem SxAt.congr{C':Nat->Nat->Rat}{B':Nat->Nat}{I:Nat->Bool}(h:SxAt w k m n C B bar)
 (M:∀i j,i<=m->j<=n->C' i j=C i j) (hB:∀i,i < m->B' i=B i) (hb:∀j,j < n->I j=bar j):SxAt w k m n C' B' I:=
 ⟨⟨h.lay.rows,h.lay.cols,λi j hi K=>by rw[M i j hi K];exact h.lay.num i j hi K,λi j hi K=>by rw[M i j hi K];exact h.lay.den i j hi K,
  λi hi=>by rw[hB i hi];exact h.lay.bas i hi,λj K=>by rw[hb j K];exact h.lay.bars j K,h.lay.one,h.lay.mle,h.lay.nle⟩,h.free⟩
theorem kq(w:World)(k m n:Nat)(C:Nat->Nat->Rat)(B:Nat->Nat)(bar:Nat->Bool)(h:SxAt w k m n C B bar):
 Cl 97 #[.pointer (some ⟨k,0,none⟩)] w λe w'=>e=.returned (.tuple #[])/\Kb k w w'/\SxAt w' k m n C B (λj=>bar j||(decide (j < n)&&decide (0 < C m j))):=by
 have hn:=h.lay.nle;have hm:=h.lay.mle;have a4:w.cell? ⟨k,1,none⟩=some (.int .i64 n):=h.lay.cols;go_enter Tryz.func97,Tryz.ntmps97
 go_wp2_with fail
 go_loopw [7] (λt wr=>∃j:Nat,j<=n/\t=.int .i64 j/\Kb k w wr/\SxAt wr k m n C B (λK=>bar K||(decide (K < j)&&decide (0 < C m K)))) (λt _=>n - (intOf t).toNat)
 case atStart=>exact⟨0,nZ _,rfl,Kb.refl _ _,by simpa using h⟩
 case round=>
  obtain⟨j,hj,rfl,hK,V⟩:=hrel;by_cases a3:j < n
  ·have hr:wr.cell? ⟨k,0,none⟩=some (.int .i64 m):=V.lay.rows;have M:wr.cell? ⟨k,2+m*40+j*2,none⟩=some (.int .i64 (C m j).num):=V.lay.num m j (bK _) hj;have O:wr.cell? ⟨k,2+m*40+j*2+1,none⟩=some (.int .i64 (C m j).den):=V.lay.den m j (bK _) hj;have i1:(m:Int) < 8:=Oo;have i2:(j:Int) < 20:=Oo;have i3:(j:Int) < (n:Int):=Oo;have step:∀w',Bl wr w'->Kb k w w'/\SxAt w' k m n C B (λK=>bar K||(decide (K < j)&&decide (0 < C m K))):=λw' hb=>⟨hK.trans (Kb.of_below hb),V.below hb⟩;by_cases hp:0 < C m j
   ·have hg:(0:Int) < sgR (C m j):=by rw[yw hp];decide
    go_wp2_with fail
    go_region_held3 (λw'=>w'.cell? ⟨k,0,none⟩=some (.int .i64 m)/\w'.cell? ⟨k,2+m*40+j*2,none⟩=some (.int .i64 (C m j).num)/\w'.cell? ⟨k,2+m*40+j*2+1,none⟩=some (.int .i64 (C m j).den))
     (first|exact⟨hr,M,O⟩|(have I:=V.lt;exact⟨(hb.cell (p:=⟨k,0,none⟩) I).trans hr,(hb.cell (p:=⟨k,2+m*40+j*2,none⟩) I).trans M,(hb.cell (p:=⟨k,2+m*40+j*2+1,none⟩) I).trans O⟩))
     (first|(go_at_call 188;refine(Zn (C m j) _).mono ?_;rintro e w' ⟨rfl,hb⟩))
    obtain⟨a2,U⟩:=step w' (by exact(bM _ _).drew.trans hb);have a6:w'.cell? ⟨k,330+j,none⟩=some (.bool (bar j||(decide (j < j)&&decide (0 < C m j)))):=U.lay.bars j a3;have a7:w'.frozen? ⟨k,330+j,none⟩=false:=U.free (330+j) Oo;go_wp2;go_roundw
    case rel=>
     refine⟨j+1,Oo,Gg,a2.set _ _,(U.setBar a3 true).congr (λ_ _ _ _=>rfl) (λ_ _=>rfl) (λK a5=>?_)⟩;by_cases e:K=j
     ·subst e;rw[if_pos rfl];simp[hp]
     ·rw[if_neg e];by_cases e2:K < j
      ·simp[e2,show K < j+1 by omega]
      ·simp[e2,show ¬K < j+1 by omega]
    case measure=>simp[intOf];omega
   ·have hg:decide ((0:Int) < sgR (C m j))=false:=by
     by_cases e:C m j < 0
     ·rw[yu e];decide
     ·rw[yy Rr];decide
    go_wp2_with fail
    go_region_held3 (λw'=>w'.cell? ⟨k,0,none⟩=some (.int .i64 m)/\w'.cell? ⟨k,2+m*40+j*2,none⟩=some (.int .i64 (C m j).num)/\w'.cell? ⟨k,2+m*40+j*2+1,none⟩=some (.int .i64 (C m j).den))
     (first|exact⟨hr,M,O⟩|(have I:=V.lt;exact⟨(hb.cell (p:=⟨k,0,none⟩) I).trans hr,(hb.cell (p:=⟨k,2+m*40+j*2,none⟩) I).trans M,(hb.cell (p:=⟨k,2+m*40+j*2+1,none⟩) I).trans O⟩))
     (first|(go_at_call 188;refine(Zn (C m j) _).mono ?_;rintro e w' ⟨rfl,hb⟩))
    obtain⟨a2,U⟩:=step w' (by exact(bM _ _).drew.trans hb);go_wp2;go_roundw
    case rel=>
     refine⟨j+1,Oo,Gg,a2,U.congr (λ_ _ _ _=>rfl) (λ_ _=>rfl) (λK a5=>?_)⟩;by_cases e:K=j
     ·subst e;simp[hp]
     ·by_cases e2:K < j
      ·simp[e2,show K < j+1 by omega]
      ·simp[e2,show ¬K < j+1 by omega]
    case measure=>simp[intOf];omega
  ·obtain rfl:j=n:=Oo;go_wp2;go_end0
   exact⟨rfl,hK,V⟩
namespace Cov
theorem first_eq(K:j < n)(hp:p j=true)(M:∀i,i < j->p i=false):first p n=some j:=by
 cases hf:first p n with
 |none=>have:=uH hf j K;rw[hp]at this;cases this
 |some j'=>
  obtain⟨V,I,O⟩:=first_some hf;by_cases e:j' < j
  ·rw[M j' e]at I;cases I
  ·by_cases U:j < j'
   ·rw[O j U]at hp;cases hp
   ·rw[show j'=j by omega]
theorem first_eq_none(K:∀i,i < n->p i=false):first p n=none:=by
 cases hf:first p n with
 |none=>rfl
 |some j=>
  obtain⟨M,I,_⟩:=first_some hf;rw[K j M]at I;cases I
def idx:Option Nat->Int
 |none=>-1
 |some j=>j
end Cov
theorem XZ(w:World)(k m n:Nat)(C:Nat->Nat->Rat)(B:Nat->Nat)(bar:Nat->Bool)(h:SxAt w k m n C B bar):
 Cl 94 #[.pointer (some ⟨k,0,none⟩)] w λe w'=>e=.returned (.int .i64 (Cov.idx (Cov.first (λj=>!bar j&&decide (C m j < 0)) n)))/\Bl w w':=by
 have hn:=h.lay.nle;have hm:=h.lay.mle;have a5:w.cell? ⟨k,1,none⟩=some (.int .i64 n):=h.lay.cols;obtain⟨res,U⟩:∃r,r=Cov.idx (Cov.first (λj=>!bar j&&decide (C m j < 0)) n):=⟨_,rfl⟩;rw[<-U];have HR:=hid U;clear U;go_enter Tryz.func94,Tryz.ntmps94
 go_wp2_with fail
 go_loopw [8] (λt wr=>∃j:Nat,j<=n/\t=.int .i64 j/\Bl w wr/\Hid (∀i,i < j->(!bar i&&decide (C m i < 0))=false)) (λt _=>n - (intOf t).toNat)
 case atStart=>exact⟨0,nZ _,rfl,bM _ _,hid (λi hi=>Oo)⟩
 case round=>
  obtain⟨j,hj,rfl,hK,hz⟩:=hrel;have hS:=h.below hK;by_cases a4:j < n
  ·have hr:wr.cell? ⟨k,0,none⟩=some (.int .i64 m):=hS.lay.rows;have M:wr.cell? ⟨k,2+m*40+j*2,none⟩=some (.int .i64 (C m j).num):=hS.lay.num m j (bK _) hj;have O:wr.cell? ⟨k,2+m*40+j*2+1,none⟩=some (.int .i64 (C m j).den):=hS.lay.den m j (bK _) hj;have K:=hS.lay.bars j a4;have i1:(m:Int) < 8:=Oo;have i2:(j:Int) < 20:=Oo;have i3:(j:Int) < (n:Int):=Oo;cases hbj:bar j with
   |true=>
    have V:wr.cell? ⟨k,330+j,none⟩=some (.bool true):=by rw[<-hbj];exact K
    have a3:Hid (∀i,i < j+1->(!bar i&&decide (C m i < 0))=false):=λi hi=>by
     by_cases e:i=j
     ·rw[e,hbj];rfl
     ·exact hz.out i Oo
    clear K hbj hz;go_wp2_with fail
    go_quiet (fail)
    go_wp2;go_roundw
    case rel=>exact⟨j+1,Oo,Gg,below_drewN hK _,a3⟩
    case measure=>simp[intOf];omega
   |false=>
    have V:wr.cell? ⟨k,330+j,none⟩=some (.bool false):=by rw[<-hbj];exact K
    by_cases hp:C m j < 0
    ·have hg:sgR (C m j) < 0:=by rw[yu hp];decide
     have a2:Hid (res=(j:Int)):=by
      show res=(j:Int);rw[HR.out,Cov.first_eq a4 (by rw[hbj];simpa using hp) hz.out];rfl
     clear K hbj hz;go_wp2_with fail
     go_region_held3 (λw'=>w'.cell? ⟨k,330+j,none⟩=some (.bool false)/\w'.cell? ⟨k,0,none⟩=some (.int .i64 m)/\w'.cell? ⟨k,2+m*40+j*2,none⟩=some (.int .i64 (C m j).num)/\w'.cell? ⟨k,2+m*40+j*2+1,none⟩=some (.int .i64 (C m j).den))
      (first|exact⟨V,hr,M,O⟩|(have I:=hS.lt;exact⟨(hb.cell (p:=⟨k,330+j,none⟩) I).trans V,(hb.cell (p:=⟨k,0,none⟩) I).trans hr,(hb.cell (p:=⟨k,2+m*40+j*2,none⟩) I).trans M,(hb.cell (p:=⟨k,2+m*40+j*2+1,none⟩) I).trans O⟩))
      (first|(go_at_call 188;refine(Zn (C m j) _).mono ?_;rintro e w' ⟨rfl,hb⟩))
     go_wp2;go_ret;exact⟨qv (by rw[a2.out]),bt hK ((bM _ _).drew.trans hb)⟩
    ·have hg:decide (sgR (C m j) < 0)=false:=by
      by_cases e:0 < C m j
      ·rw[yw e];decide
      ·rw[yy Rr];decide
     have a3:Hid (∀i,i < j+1->(!bar i&&decide (C m i < 0))=false):=λi hi=>by
      by_cases e:i=j
      ·rw[e,hbj];simpa using hp
      ·exact hz.out i Oo
     clear K hbj hz;go_wp2_with fail
     go_region_held3 (λw'=>w'.cell? ⟨k,330+j,none⟩=some (.bool false)/\w'.cell? ⟨k,0,none⟩=some (.int .i64 m)/\w'.cell? ⟨k,2+m*40+j*2,none⟩=some (.int .i64 (C m j).num)/\w'.cell? ⟨k,2+m*40+j*2+1,none⟩=some (.int .i64 (C m j).den))
      (first|exact⟨V,hr,M,O⟩|(have I:=hS.lt;exact⟨(hb.cell (p:=⟨k,330+j,none⟩) I).trans V,(hb.cell (p:=⟨k,0,none⟩) I).trans hr,(hb.cell (p:=⟨k,2+m*40+j*2,none⟩) I).trans M,(hb.cell (p:=⟨k,2+m*40+j*2+1,none⟩) I).trans O⟩))
      (first|(go_at_call 188;refine(Zn (C m j) _).mono ?_;rintro e w' ⟨rfl,hb⟩))
     go_wp2;go_roundw
     case rel=>exact⟨j+1,Oo,Gg,bt hK ((bM _ _).drew.trans hb),a3⟩
     case measure=>simp[intOf];omega
  ·obtain rfl:j=n:=Oo
   have a2:Hid (res=-1):=by
    show res=-1;rw[HR.out,Cov.first_eq_none hz.out];rfl
   clear hz;go_wp2;go_ret;exact⟨qv (by rw[a2.out]),hK⟩
section
variable {w:World} {k m n:Nat} {C:Nat->Nat->Rat} {B:Nat->Nat} {bar:Nat->Bool}
theorem SxAt.drew(h:SxAt w k m n C B bar):SxAt w.drew k m n C B bar:=h.move rfl
theorem SxAt.alloc(h:SxAt w k m n C B bar)(o:Obj):SxAt (w.alloc o) k m n C B bar:=h.move (Below.heap_alloc _ _ _ h.lt)
theorem SxAt.far(h:SxAt w k m n C B bar){o:Nat}(v:Value)(I:a≠k):SxAt (w.setCell ⟨a,o,none⟩ v) k m n C B bar:=h.move (bE _ _ _ _ (λe=>I e.symm))
theorem SxAt.at(h:SxAt w k m n C B bar)(hi:i<=m)(I:j<=n):w.cell? ⟨k,2+i*40+j*2,none⟩=some (.int .i64 (C i j).num)/\w.cell? ⟨k,2+i*40+j*2+1,none⟩=some (.int .i64 (C i j).den):=
 ⟨h.lay.num i j hi I,h.lay.den i j hi I⟩
theorem SxAt.five(h:SxAt w k m n C B bar){c:Nat}(hi:i<=m)(I:c<=n):w.cell? ⟨k,1,none⟩=some (.int .i64 n)/\w.cell? ⟨k,2+i*40+n*2,none⟩=some (.int .i64 (C i n).num)/\w.cell? ⟨k,2+i*40+n*2+1,none⟩=some (.int .i64 (C i n).den)/\w.cell? ⟨k,2+i*40+c*2,none⟩=some (.int .i64 (C i c).num)/\w.cell? ⟨k,2+i*40+c*2+1,none⟩=some (.int .i64 (C i c).den):=
 ⟨h.lay.cols,h.lay.num i n hi (bK _),h.lay.den i n hi (bK _),h.lay.num i c hi I,h.lay.den i c hi I⟩
end
theorem Sm.inv{B:Nat}(h:Sm B q)(I:q≠0):Sm B q⁻¹:=by
 refine zO (D:=q.num) (Z:=B) (ks I) h.1 ⟨q.den,?_,by rw[zr];exact h.2⟩ (bK _);have e:=Qb q;rw[<-e];generalize (((q.den:Nat):Int):Rat)=d;grind
def qAS(w wc:World)(v:Value)(q:Rat):Prop:=∃a,v=.pointer (some ⟨a,0,none⟩)/\wc.cell? ⟨a,0,none⟩=some (.int .i64 q.num)/\wc.cell? ⟨a,1,none⟩=some (.int .i64 q.den)/\w.heap.size<=a/\a < wc.heap.size/\Bl w wc
theorem Zg{t:TypeId}(h:Bl w w'):qAS w (w'.alloc (.cells #[.int .i64 q.num,.int .i64 q.den] t)) (.pointer (some ⟨w'.heap.size,0,none⟩)) q:=
 ⟨w'.heap.size,rfl,by simp[go_sem],by simp[go_sem],h.size,Ss,h.alloc h.size _⟩
theorem V5{u v:Value}(h:Bl w w')(I:w.heap.size<=a)(K:w'.cell? ⟨a,0,none⟩=some u)(M:w'.cell? ⟨a,1,none⟩=some v):
 qAS w ((w'.setCell ⟨a,0,none⟩ (.int .i64 q.num)).setCell ⟨a,1,none⟩ (.int .i64 q.den)) (.pointer (some ⟨a,0,none⟩)) q:=by
 refine⟨a,rfl,?_,?_,I,?_,(h.setCell (by simpa using I) _).setCell (by simpa using I) _⟩
 ·rw[bD _ _ _ _ Ss,bI _ _ _ K]
 ·exact bI _ _ _ (by rw[bD _ _ _ _ Ss];exact M)
 ·have:=bL w' _ K;simpa using this
theorem vY(w:World)(k m n:Nat)(C:Nat->Nat->Rat)(B:Nat->Nat)(bar:Nat->Bool)(h:SxAt w k m n C B bar)(i o c:Nat)(hi:i < m)(ho:o < m)(hc:c < n)
 (a9:C i c≠0) (b0:C o c≠0) (K:∀a b,a<=m->b<=n->Sm 41000 (C a b)):
 Cl 116 #[.pointer (some ⟨k,0,none⟩),.int .i64 i,.int .i64 o,.int .i64 c] w λe w'=>e=.returned (.bool (Cov.before C B n c i o))/\Bl w w':=by
 have hn:=h.lay.nle;have hm:=h.lay.mle;have d9:=h.lt;have M:w.cell? ⟨k,1,none⟩=some (.int .i64 n):=h.lay.cols;obtain⟨a1,a2⟩:=h.at (i:=i) (j:=n) Oo Oo;obtain⟨a3,a4⟩:=h.at (i:=i) (j:=c) Oo Oo;have i1:(i:Int) < 8:=Oo;have i2:(o:Int) < 8:=Oo;have i3:(n:Int) < 20:=Oo;have i4:(c:Int) < 20:=Oo;have S1:=hid (K i n Oo (bK _));have S2:=hid (K i c Oo Oo);have S3:=hid (K o n Oo (bK _));have S4:=hid (K o c Oo Oo);clear K
 have I:Hid (Cov.before C B n c i o=if C i n / C i c - C o n / C o c=0 then decide (B i < B o) else decide (C i n / C i c - C o n / C o c < 0)):=by
  show Cov.before C B n c i o=_;unfold Cov.before;by_cases e:C i n / C i c=C o n / C o c
  ·rw[if_pos e,if_pos Rr]
  ·rw[if_neg e,if_neg Rr];congr 1;exact propext ⟨λ_=>Rr,λ_=>Rr⟩
 have d0:w.cell? ⟨k,322+i,none⟩=some (.int .i64 (B i:Nat)):=h.lay.bas i hi;have Q1:=hid (show Sm (41000*41000) (C i n / C i c)by rw[Rat.div_def];exact S1.out.mul (Sm.inv S2.out a9));have Q2:=hid (show Sm (41000*41000) (C o n / C o c)by rw[Rat.div_def];exact S3.out.mul (Sm.inv S4.out b0));go_enter Tryz.func116,Tryz.ntmps116
 go_wp2_with fail
 go_cut [9] (λv wc=>qAS w wc v (C i n / C i c))
 case first=>
  go_region_held3 (λw'=>w'.cell? ⟨k,1,none⟩=some (.int .i64 n)/\w'.cell? ⟨k,2+i*40+n*2,none⟩=some (.int .i64 (C i n).num)/\w'.cell? ⟨k,2+i*40+n*2+1,none⟩=some (.int .i64 (C i n).den)/\w'.cell? ⟨k,2+i*40+c*2,none⟩=some (.int .i64 (C i c).num)/\w'.cell? ⟨k,2+i*40+c*2+1,none⟩=some (.int .i64 (C i c).den))
   (first|exact h.drew.five Oo (Oo)|exact(h.drew.below hb).five Oo (Oo)|exact((h.drew.below hb).alloc _).five Oo (Oo)|exact(h.alloc _).drew.five Oo (Oo)|exact((h.alloc _).drew.below hb).five Oo (Oo)|exact((((h.alloc _).drew.below hb).far _ Oo).far _ Oo).five Oo Oo)
   (first|(go_at_call 187;refine(qAb (C i n) (C i c) _ S1.out S2.out Dd a9).mono ?_;rintro e w' ⟨rfl,hb⟩;obtain⟨O,d6⟩:=xP hb;have a7:=hb.size;simp at a7))
  all_goals(go_wp2_with fail;go_meet)
  all_goals first
   |exact Zg ((bM _ _).drew.trans hb)
   |exact V5 (u:=.int .i64 0) (v:=.int .i64 0) (Below.trans ((bM _ _).alloc (bK _) _).drew (hb.mono Ss)) (bK _) (by simp[O,go_sem]) (by simp[O,go_sem])
 case rest=>
  obtain⟨p1,rfl,b7,b9,e6,c7,c8⟩:=hcut;have U:=h.below c8;have d7:=U.lt;clear a1 a2 a3 a4 M;obtain⟨wo,rfl⟩:∃wo:World,wo=wc:=⟨_,rfl⟩;go_wp2_with fail
  go_cut [10] (λv wd=>qAS wo wd v (C o n / C o c))
  case first=>
   have M:=U.lay.cols;obtain⟨b1,b2⟩:=U.at (i:=o) (j:=n) Oo Oo;obtain⟨b3,b4⟩:=U.at (i:=o) (j:=c) Oo Oo
   go_region_held3 (λw'=>w'.cell? ⟨k,1,none⟩=some (.int .i64 n)/\w'.cell? ⟨k,2+o*40+n*2,none⟩=some (.int .i64 (C o n).num)/\w'.cell? ⟨k,2+o*40+n*2+1,none⟩=some (.int .i64 (C o n).den)/\w'.cell? ⟨k,2+o*40+c*2,none⟩=some (.int .i64 (C o c).num)/\w'.cell? ⟨k,2+o*40+c*2+1,none⟩=some (.int .i64 (C o c).den))
    (first|exact U.drew.five Oo (Oo)|exact(U.drew.below hb).five Oo (Oo)|exact((U.drew.below hb).alloc _).five Oo (Oo)|exact(U.alloc _).drew.five Oo (Oo)|exact((U.alloc _).drew.below hb).five Oo (Oo)|exact((((U.alloc _).drew.below hb).far _ Oo).far _ Oo).five Oo Oo)
    (first|(go_at_call 187;refine(qAb (C o n) (C o c) _ S3.out S4.out Dd b0).mono ?_;rintro e w' ⟨rfl,hb⟩;obtain⟨O,d6⟩:=xP hb;have a7:=hb.size;simp at a7))
   all_goals(go_wp2_with fail;go_meet)
   all_goals first
    |exact Zg ((bM _ _).drew.trans hb)
    |exact V5 (u:=.int .i64 0) (v:=.int .i64 0) (Below.trans ((bM _ _).alloc (bK _) _).drew (hb.mono Ss)) (bK _) (by simp[O,go_sem]) (by simp[O,go_sem])
  case rest=>
   obtain⟨p2,rfl,e7,e8,e9,f4,V⟩:=hcut;have e0:wc.cell? ⟨p1,0,none⟩=some (.int .i64 (C i n / C i c).num):=(V.cell (p:=⟨p1,0,none⟩) c7).trans b7;have e1:wc.cell? ⟨p1,1,none⟩=some (.int .i64 (C i n / C i c).den):=(V.cell (p:=⟨p1,1,none⟩) c7).trans b9;have h2:=U.below V;have e2:wc.cell? ⟨k,322+i,none⟩=some (.int .i64 (B i:Nat)):=h2.lay.bas i hi;have e3:wc.cell? ⟨k,322+o,none⟩=some (.int .i64 (B o:Nat)):=h2.lay.bas o ho;clear b7 b9 d0;have c9:=bt c8 V;have d8:=h2.lt;by_cases hq:C i n / C i c - C o n / C o c=0
   ·have hs:(sgR (C i n / C i c - C o n / C o c) != 0)=false:=by rw[yy hq];decide
    have a8:Hid (Cov.before C B n c i o=decide (B i < B o)):=by
     show _=_;rw[I.out,if_pos hq]
    clear I hq;go_wp2_with fail
    refine(Zo _ _ _ Q1.out Q2.out Dd).mono ?_;rintro e w4 ⟨rfl,a5⟩;go_wp2_with fail
    refine(vM _ _).mono ?_;rintro e w5 ⟨rfl,a6⟩;have h5:=(h2.below a5).below a6;have e4:w5.cell? ⟨k,322+i,none⟩=some (.int .i64 (B i:Nat)):=h5.lay.bas i hi;have e5:w5.cell? ⟨k,322+o,none⟩=some (.int .i64 (B o:Nat)):=h5.lay.bas o ho;go_wp2_with fail
    go_quiet (fail)
    go_wp2;go_ret;refine⟨?_,below_drewN (bt c9 (bt a5 a6)) _⟩;rw[a8.out];congr 2
   ·have hs:(sgR (C i n / C i c - C o n / C o c) != 0)=true:=by
     by_cases e:C i n / C i c - C o n / C o c < 0
     ·rw[yu e];decide
     ·rw[yw Rr];decide
    have a8:Hid (Cov.before C B n c i o=decide (sgR (C i n / C i c - C o n / C o c) < 0)):=by
     show _=_;rw[I.out,if_neg hq];by_cases e:C i n / C i c - C o n / C o c < 0
     ·rw[yu e];simpa using e
     ·rw[yw Rr];simpa using e
    clear I hq;go_wp2_with fail
    refine(Zo _ _ _ Q1.out Q2.out Dd).mono ?_;rintro e w4 ⟨rfl,a5⟩;go_wp2_with fail
    refine(vM _ _).mono ?_;rintro e w5 ⟨rfl,a6⟩;go_wp2;go_ret;refine⟨?_,bt c9 (bt a5 a6)⟩;rw[a8.out];rfl
theorem UC(w:World)(p:Value)(c:Int)(I:c < 0):
 Cl 95 #[p,.int .i64 c] w λe w'=>e=.returned (.int .i64 (-1))/\Bl w w':=by
 go_enter Tryz.func95,Tryz.ntmps95
 go_wp2;go_ret;exact⟨rfl,bM _ _⟩
theorem UD(w:World)(k m n:Nat)(C:Nat->Nat->Rat)(B:Nat->Nat)(bar:Nat->Bool)(h:SxAt w k m n C B bar)(c:Nat)(hc:c < n)(a7:∀a b,a<=m->b<=n->Sm 41000 (C a b)):
 Cl 95 #[.pointer (some ⟨k,0,none⟩),.int .i64 c] w λe w'=>e=.returned (.int .i64 (Cov.idx (Cov.best (λi=>decide (0 < C i c)) (Cov.before C B n c) m)))/\Bl w w':=by
 have hn:=h.lay.nle;have hm:=h.lay.mle;have a9:w.cell? ⟨k,0,none⟩=some (.int .i64 m):=h.lay.rows;have S1:=hid a7;clear a7;obtain⟨I,O⟩:∃f:Nat->Option Nat,f=Cov.best (λi=>decide (0 < C i c)) (Cov.before C B n c):=⟨_,rfl⟩
 have a4:Hid (∀i,I (i+1)=match I i with|none=>if decide (0 < C i c) then some i else none|some b=>if decide (0 < C i c)&&Cov.before C B n c i b then some i else some b):=by
  intro i;rw[O];rfl
 have a5:Hid (∀i b,I i=some b->b < i/\0 < C b c):=by
  intro i b hb;rw[O]at hb;obtain⟨h1,h2,_⟩:=Cov.best_some hb;exact⟨h1,h2⟩
 have hzero:Hid (I 0=none):=by rw[O];exact rfl
 rw[<-O];clear O;have i2:(c:Int) < 20:=Oo;have i0:¬((c:Int) < 0):=Oo;go_enter Tryz.func95,Tryz.ntmps95
 go_wp2_with fail
 go_loopw [5,14] (λt u wr=>∃i:Nat,i<=m/\u=.int .i64 i/\t=.int .i64 (Cov.idx (I i))/\Bl w wr) (λ_ u _=>m - (intOf u).toNat)
 case atStart=>exact⟨0,nZ _,rfl,by rw[hzero.out];rfl,bM _ _⟩
 case round=>
  obtain⟨i,hi,rfl,rfl,hK⟩:=hrel;have hS:=h.below hK;by_cases a8:i < m
  ·have i3:(i:Int) < (m:Int):=Oo;have i4:(i:Int) < 8:=Oo;obtain⟨a1,a2⟩:=hS.at (i:=i) (j:=c) Oo Oo;have U:=hid (a4.out i);by_cases hp:0 < C i c
   ·have hg:(0:Int) < sgR (C i c):=by rw[yw hp];decide
    have HP:=hid hp;cases hb:I i with
    |none=>
     have K:Hid (I (i+1)=some i):=by
      show _=_;rw[U.out,hb];simp only[HP.out,decide_true,if_true]
     have e0:Cov.idx (I i)=-1:=by rw[hb];rfl
     rw[<-hb,e0];clear hb e0 hp;go_wp2_with (first|(go_at_call 188;refine(vM (C i c) _).mono ?_;rintro e w' ⟨rfl,M⟩))
     go_roundw
     case rel=>exact⟨i+1,Oo,Gg,by rw[K.out];rfl,bt hK M⟩
     case measure=>simp[intOf];omega
    |some b=>
     obtain⟨b7,b0⟩:=a5.out i b hb;have HB:=hid hb;have e0:Cov.idx (I i)=(b:Int):=by rw[hb];rfl
     rw[<-hb,e0];clear hb e0;have j1:¬((b:Int) < 0):=Oo;have V:C i c≠0:=Rr;have a3:C b c≠0:=Rr;clear hp b0;cases hbf:Cov.before C B n c i b with
     |true=>
      have K:Hid (I (i+1)=some i):=by
       show _=_;rw[U.out,HB.out];simp only[HP.out,decide_true,Bool.true_and];rw[hbf];rfl
      have HF:=hid hbf;clear hbf;go_wp2_with fail
      refine(vM (C i c) _).mono ?_;rintro e w1 ⟨rfl,M⟩;go_wp2_with fail
      refine(vY _ k m n C B bar (hS.below M) i b c a8 Oo hc V a3 S1.out).mono ?_;rintro e w2 ⟨rfl,a6⟩;rw[HF.out];go_wp2_with fail
      go_roundw
      case rel=>exact⟨i+1,Oo,Gg,by rw[K.out];rfl,bt hK (bt M a6)⟩
      case measure=>simp[intOf];omega
     |false=>
      have K:Hid (I (i+1)=some b):=by
       show _=_;rw[U.out,HB.out];simp only[HP.out,decide_true,Bool.true_and];rw[hbf];rfl
      have HF:=hid hbf;clear hbf;go_wp2_with fail
      refine(vM (C i c) _).mono ?_;rintro e w1 ⟨rfl,M⟩;go_wp2_with fail
      refine(vY _ k m n C B bar (hS.below M) i b c a8 Oo hc V a3 S1.out).mono ?_;rintro e w2 ⟨rfl,a6⟩;rw[HF.out];go_wp2_with fail
      go_roundw
      case rel=>exact⟨i+1,Oo,Gg,by rw[K.out];rfl,bt hK (bt M a6)⟩
      case measure=>simp[intOf];omega
   ·have hg:decide ((0:Int) < sgR (C i c))=false:=by
     by_cases e:C i c < 0
     ·rw[yu e];decide
     ·rw[yy Rr];decide
    have K:Hid (I (i+1)=I i):=by
     show _=_;rw[U.out];cases I i <;> simp[hp]
    clear hp;go_wp2_with (first|(go_at_call 188;refine(vM (C i c) _).mono ?_;rintro e w' ⟨rfl,M⟩))
    go_roundw
    case rel=>exact⟨i+1,Oo,Gg,by rw[K.out],bt hK M⟩
    case measure=>simp[intOf];omega
  ·obtain rfl:i=m:=Oo;go_wp2;go_ret;exact⟨rfl,hK⟩
end Go.Proofs.YtkaipapdlnojiaaGreat
