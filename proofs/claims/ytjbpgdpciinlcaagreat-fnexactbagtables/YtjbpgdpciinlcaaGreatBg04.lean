import Derived.Deep.OwnRows
import Derived.Test.YtjbpgdpciinlcaaGreatBg03
set_option maxHeartbeats 40000000
set_option maxRecDepth 1000000
namespace Go.Proofs.YtjbpgdpciinlcaaGreat
open Go.RowKit
variable {ls:List (List Int)}{l:List Int}{g j n:Nat}{v:Value}{w w':World}
def IS(w:World)(v:Value)(l:List Int):Prop:=∃a cap,v=.slice a l.length cap/\(l.length=0∨∃b o,a=some ⟨b,o,none⟩/\∀j,j < l.length->w.cell? ⟨b,o+j,none⟩=some (.int .i64 (l.getD j 0)))
theorem IS.below(h:IS w v l)(hb:Bl w w'):IS w' v l:=by
 obtain⟨a,cap,rfl,h⟩:=h;refine⟨a,cap,rfl,?_⟩;rcases h with h|⟨b,o,rfl,h⟩
 ·exact Or.inl h
 ·exact Or.inr ⟨b,o,rfl,fun j hj=>(hb.cell (p:=⟨b,o+j,none⟩) (bL w _ (h j hj))).trans (h j hj)⟩
structure OwnI(w:World)(g:Nat)(l:List Int):Prop where
 cell:∀j,j < l.length->w.cell? ⟨g,j,none⟩=some (.int .i64 (l.getD j 0))
 free:∀j,j < l.length->w.frozen? ⟨g,j,none⟩=false
 lt:g < w.heap.size
theorem OwnI.is(h:OwnI w g l):IS w (.slice (some ⟨g,0,none⟩) l.length l.length) l:=
 ⟨_,_,rfl,Or.inr ⟨g,0,rfl,fun j hj=>by rw[Nat.zero_add];exact h.cell j hj⟩⟩
theorem OwnI.move(h:OwnI w g l)(hb:w'.heap[g]?=w.heap[g]?)(hs:w.heap.size<=w'.heap.size):OwnI w' g l:=
 ⟨fun j hj=>(bE (w:=w) (a:=⟨g,j,none⟩) hb).trans (h.cell j hj),fun j hj=>(World.frozen?_of_block (w:=w) (a:=⟨g,j,none⟩) hb).trans (h.free j hj),bM h.lt hs⟩
theorem OwnI.below(h:OwnI w g l)(hb:Bl w w'):OwnI w' g l:=h.move (hb.block g h.lt) hb.size
theorem Vf(z:Value)(n j:Nat)(h:j < n):(madeCells #[z] n)[j]?=some z:=by
 simp[madeCells,h,Nat.mod_one]
theorem xp(w:World)(v:Value)(l:List Int)(h:IS w v l)(hl:l.length<=1099511627776):
 Cl 26 #[v] w fun e w'=>e=.returned (.slice (some ⟨w.heap.size,0,none⟩) l.length l.length)/\OwnI w' w.heap.size l/\Bl w w':=by
 obtain⟨a,cap,rfl,hc⟩:=h;obtain⟨n,hn⟩:∃n,n=l.length:=⟨_,rfl⟩;rw[<-hn]at hc hl ⊢;have hmk:=run_make_row' (P:=Tryz.prog) 24 3 (.int .i64 0) 8 Tryz.underlying24 (by kernel_rfl) rfl .i64 .i64 n (by omega) (by omega);have hb0:=heap_alloc_new w (.cells (madeCells #[.int .i64 0] n) 3);have hA0:∀j,j < n->(w.alloc (.cells (madeCells #[.int .i64 0] n) 3)).cell? ⟨w.heap.size,j,none⟩=some (.int .i64 0):=fun j hj=>by rw[cell_of_row _ _ _ _ _ _ hb0];exact Vf _ _ _ hj
 have hF0:∀j,(w.alloc (.cells (madeCells #[.int .i64 0] n) 3)).frozen? ⟨w.heap.size,j,none⟩=false:=fun j=>by unfold World.frozen?;rw[hb0];simp
 have HA0:=hid hA0;have HF0:=hid hF0;clear hA0 hF0 hb0;have HC:=hid hc;have HN:=hid hn;clear hc hn;go_enter Tryz.func26,Tryz.ntmps26
 go_wp2;go_loopw [4] (fun t wr=>∃j:Nat,j<=n/\t=.int .i64 j/\Bl w wr/\w.heap.size < wr.heap.size/\Hid ((∀i,i < n->wr.cell? ⟨w.heap.size,i,none⟩=some (.int .i64 (if i < j then l.getD i 0 else 0)))/\∀i,i < n->wr.frozen? ⟨w.heap.size,i,none⟩=false)) (fun t _=>n - (intOf t).toNat)
 case atStart=>exact⟨0,nZ _,rfl,(bI _ _).alloc (nR _) _,by simp,hid ⟨fun i hi=>by rw[if_neg (by omega)];exact HA0.out i hi,fun i _=>HF0.out i⟩⟩
 case round=>
  obtain⟨j,hj,rfl,hB,hlt,hH⟩:=hrel;by_cases hjn:j < n
  ·have i1:(j:Int) < (n:Int):=by omega
   rcases HC.out with h0|⟨b,o,rfl,hcell⟩
   ·omega
   ·have c1:wr.cell? ⟨b,o+j,none⟩=some (.int .i64 (l.getD j 0)):=(hB.cell (p:=⟨b,o+j,none⟩) (bL w _ (hcell j hjn))).trans (hcell j hjn);have c2:wr.cell? ⟨w.heap.size,j,none⟩=some (.int .i64 (if j < j then l.getD j 0 else 0)):=hH.out.1 j hjn;have c3:wr.frozen? ⟨w.heap.size,j,none⟩=false:=hH.out.2 j hjn;clear hcell;go_wp2;go_roundw
    case rel=>
     refine⟨j+1,by omega,by go_num,hB.setCell (nR _) _,by simpa using hlt,hid ⟨fun i hi=>?_,fun i hi=>by rw[fS];exact hH.out.2 i hi⟩⟩;by_cases e:i=j
     ·subst e;rw[if_pos (by omega)];exact bF _ _ _ c2
     ·rw[bC _ _ _ _ (by intro e2;simp only[Addr.mk.injEq]at e2;omega),hH.out.1 i hi];by_cases e2:i < j
      ·rw[if_pos e2,if_pos (by omega)]
      ·rw[if_neg e2,if_neg (by omega)]
    case measure=>simp[intOf];omega
  ·obtain rfl:j=n:=by omega
   have i1:¬((j:Int) < (j:Int)):=by omega
   go_wp2;go_ret;refine⟨rfl,⟨fun i hi=>?_,fun i hi=>hH.out.2 i (by rw[HN.out];exact hi),hlt⟩,hB⟩;rw[hH.out.1 i (by rw[HN.out];exact hi),if_pos (by rw[HN.out];exact hi)]
theorem xq(w:World)(a:Option Addr)(n cap:Nat)(left:Int)(h1:0<=left)(h2:left<=1048576)(hn:n<=9223372036854775807):
 Cl 17 #[.slice a n cap,.int .i64 left] w fun e w'=>e=.returned (.int .i64 (if left < n then -1 else left - n))/\w'=w:=by
 by_cases h:left < n
 ·rw[if_pos h];have h3:left - (n:Int) < 0:=by omega
  go_enter Tryz.func17,Tryz.ntmps17
  go_wp2;go_ret;exact⟨rfl,rfl⟩
 ·rw[if_neg h];have h3:¬(left - (n:Int) < 0):=by omega
  go_enter Tryz.func17,Tryz.ntmps17
  go_wp2;go_ret;exact⟨rfl,rfl⟩
theorem Qg(w:World)(v v':Value)(l:List Int)(h:IS w v l)(h':IS w v' l)(hl:l.length<=1099511627776):
 Cl 35 #[v,v'] w fun e w'=>e=.returned (.bool true)/\Bl w w':=by
 obtain⟨a,cap,rfl,hc⟩:=h;obtain⟨a',cap',rfl,hc'⟩:=h';obtain⟨n,hn⟩:∃n,n=l.length:=⟨_,rfl⟩;rw[<-hn]at hc hc' hl ⊢;have HC:=hid hc;have HC':=hid hc';clear hc hc' hn;have hne:((n:Int) != (n:Int))=false:=by simp
 go_enter Tryz.func35,Tryz.ntmps35
 go_wp2;go_loopw [5] (fun t wr=>∃j:Nat,j<=n/\t=.int .i64 j/\Bl w wr) (fun t _=>n - (intOf t).toNat)
 case atStart=>exact⟨0,nZ _,rfl,bI _ _⟩
 case round=>
  obtain⟨j,hj,rfl,hB⟩:=hrel;by_cases hjn:j < n
  ·have i1:(j:Int) < (n:Int):=by omega
   rcases HC.out with h0|⟨b,o,rfl,hcell⟩
   ·omega
   ·rcases HC'.out with h0|⟨b',o',rfl,hcell'⟩
    ·omega
    ·have c1:wr.cell? ⟨b,o+j,none⟩=some (.int .i64 (l.getD j 0)):=(hB.cell (p:=⟨b,o+j,none⟩) (bL w _ (hcell j hjn))).trans (hcell j hjn);have c2:wr.cell? ⟨b',o'+j,none⟩=some (.int .i64 (l.getD j 0)):=(hB.cell (p:=⟨b',o'+j,none⟩) (bL w _ (hcell' j hjn))).trans (hcell' j hjn);obtain⟨x,hx⟩:∃x,x=l.getD j 0:=⟨_,rfl⟩;rw[<-hx]at c1 c2;have hxx:(x != x)=false:=by simp
     clear hcell hcell' hx;go_wp2_with fail
     go_quiet (fail)
     go_wp2;go_roundw
     case rel=>exact⟨j+1,by omega,by go_num,below_drewN hB _⟩
     case measure=>simp[intOf];omega
  ·obtain rfl:j=n:=by omega
   have i1:¬((j:Int) < (j:Int)):=by omega
   go_wp2;go_ret;exact⟨rfl,hB⟩
def jC(k:Int)(n:Nat):List Int:=(List.range n).map fun i=>k+(i:Nat)
theorem vU(k:Int)(n:Nat):(jC k n).length=n:=by simp[jC]
theorem Zh{k:Int}(h:j < n):(jC k n).getD j 0=k+(j:Nat):=by
 unfold jC;rw[gD,bJ,List.getElem?_range h];rfl
structure Og(g:Nat)(w w':World):Prop where
 os:w'.os=w.os
 tape:w'.tape=w.tape
 output:w'.output=w.output
 size:w'.heap.size=w.heap.size
 block:∀b,b≠g->w'.heap[b]?=w.heap[b]?
theorem Og.refl(g:Nat)(w:World):Og g w w:=⟨rfl,rfl,rfl,rfl,fun _ _=>rfl⟩
theorem Og.set(h:Og g w w')(o:Nat)(v:Value):Og g w (w'.setCell ⟨g,o,none⟩ v):=
 ⟨h.os,h.tape,h.output,by simpa[World.setCell]using h.size,fun b hne=>(bD _ _ _ _ hne).trans (h.block b hne)⟩
theorem Og.below{N:Nat}(h:Og g w w')(hg:N<=g):Below N w w':=
 ⟨h.os,h.tape,h.output,Nat.le_of_eq h.size.symm,fun b hb=>h.block b (by omega)⟩
theorem qG{a b:Bool}(h:a=b):Ending.returned (.bool a)=.returned (.bool b):=by rw[h]
def zp(l:List Int)(j:Nat):Bool:=decide (0<=l.getD j 0)&&decide (l.getD j 0 < 6)&&(decide (j=0)||decide (l.getD (j - 1) 0 < l.getD j 0))
def qP(l:List Int):Bool:=(List.range l.length).all (zp l)
theorem uu(h:∀i,i < l.length->zp l i=true):qP l=true:=by
 unfold qP;rw[aT];intro i hi;exact h i (by simpa using hi)
theorem Z3(hj:j < l.length)(h:zp l j=false):qP l=false:=by
 unfold qP;rw[List.all_eq_false];exact⟨j,by simpa using hj,by rw[h];decide⟩
theorem Z4(l:List Int)(j:Nat):
 (l.getD j 0 < 0/\zp l j=false)∨(0<=l.getD j 0/\6<=l.getD j 0/\zp l j=false)∨(0<=l.getD j 0/\l.getD j 0 < 6/\j=0/\zp l j=true)∨
 (0<=l.getD j 0/\l.getD j 0 < 6/\0 < j/\l.getD j 0<=l.getD (j - 1) 0/\zp l j=false)∨(0<=l.getD j 0/\l.getD j 0 < 6/\0 < j/\l.getD (j - 1) 0 < l.getD j 0/\zp l j=true):=by
 unfold zp;generalize l.getD j 0=x;generalize l.getD (j - 1) 0=y;by_cases h1:x < 0
 ·left;refine⟨h1,?_⟩;simp;omega
 ·by_cases h2:6<=x
  ·right;left;refine⟨by omega,h2,?_⟩;simp;omega
  ·by_cases h3:j=0
   ·right;right;left;refine⟨by omega,by omega,h3,?_⟩;simp[h3];omega
   ·by_cases h4:y < x
    ·right;right;right;right;refine⟨by omega,by omega,by omega,h4,?_⟩;simp;omega
    ·right;right;right;left;refine⟨by omega,by omega,by omega,by omega,?_⟩;simp;omega
theorem zP(w:World)(v:Value)(l:List Int)(h:IS w v l)(hl:l.length<=1099511627776):
 Cl 75 #[v] w fun e w'=>e=.returned (.bool (qP l))/\w'=w:=by
 obtain⟨a,cap,rfl,hc⟩:=h;obtain⟨n,hn⟩:∃n,n=l.length:=⟨_,rfl⟩;obtain⟨res,hres⟩:∃r,r=qP l:=⟨_,rfl⟩;rw[<-hres];have HR:=hid hres;rw[<-hn]at hc hl ⊢;have HC:=hid hc;have HN:=hid hn;clear hc hn hres;go_enter Tryz.func75,Tryz.ntmps75
 go_wp2;go_loop [7] (fun t=>∃j:Nat,j<=n/\t=.int .i64 j/\Hid (∀i,i < j->zp l i=true)) (fun t=>n - (intOf t).toNat)
 case atStart=>exact⟨0,nZ _,rfl,hid (fun i hi=>by omega)⟩
 case round=>
  obtain⟨j,hj,rfl,hok⟩:=hrel;by_cases hjn:j < n
  ·have i1:(j:Int) < (n:Int):=by omega
   rcases HC.out with h0|⟨b,o,rfl,hcell⟩
   ·omega
   ·have c1:w.cell? ⟨b,o+j,none⟩=some (.int .i64 (l.getD j 0)):=hcell j hjn;have hcs:=Z4 l j;have fin:zp l j=false->Hid (res=false):=fun e=>HR.out.trans (Z3 (by rw[<-HN.out];exact hjn) e)
    have nxt:zp l j=true->Hid (∀i,i < j+1->zp l i=true):=fun e i hi=>by
     by_cases e2:i=j
     ·rw[e2];exact e
     ·exact hok.out i (by omega)
    have c2:0 < j->w.cell? ⟨b,o+(j - 1),none⟩=some (.int .i64 (l.getD (j - 1) 0)):=fun e=>hcell (j - 1) (by omega);clear hcell hok;generalize l.getD j 0=x at *;generalize l.getD (j - 1) 0=y at *;rcases hcs with ⟨h1,h2⟩|⟨h1,h2,h3⟩|⟨h1,h2,h3,h4⟩|⟨h1,h2,h3,h4,h5⟩|⟨h1,h2,h3,h4,h5⟩
    ·have hf:=fin h2;clear c2 fin nxt h2;go_wp2;go_ret;exact⟨qG (by rw[hf.out]),rfl⟩
    ·have hf:=fin h3;have d1:decide (x < 0)=false:=by simp;omega
     clear c2 fin nxt h3;go_wp2;go_ret;exact⟨qG (by rw[hf.out]),rfl⟩
    ·have hf:=nxt h4;have d1:decide (x < 0)=false:=by simp;omega
     have d2:decide (6<=x)=false:=by simp;omega
     subst h3;have c1':w.cell? ⟨b,o,none⟩=some (.int .i64 x):=by simpa using c1
     clear c2 fin nxt h4;go_wp2;go_round
     case rel=>exact⟨0+1,by omega,by go_num,hf⟩
     case measure=>simp[intOf];omega
    ·have hf:=fin h5;have d1:decide (x < 0)=false:=by simp;omega
     have d2:decide (6<=x)=false:=by simp;omega
     have c3:=c2 h3;have i3:(0:Int) < (j:Int):=by omega
     have i4:((j:Int) - 1).toNat=j - 1:=by omega
     clear c2 fin nxt h5;go_wp2;go_ret;exact⟨qG (by rw[hf.out]),rfl⟩
    ·have hf:=nxt h5;have d1:decide (x < 0)=false:=by simp;omega
     have d2:decide (6<=x)=false:=by simp;omega
     have d3:decide (x<=y)=false:=by simp;omega
     have c3:=c2 h3;have i3:(0:Int) < (j:Int):=by omega
     have i4:((j:Int) - 1).toNat=j - 1:=by omega
     clear c2 fin nxt h5;go_wp2;go_round
     case rel=>exact⟨j+1,by omega,by go_num,hf⟩
     case measure=>simp[intOf];omega
  ·obtain rfl:j=n:=by omega
   have hf:Hid (res=true):=HR.out.trans (uu (fun i hi=>hok.out i (by rw[HN.out];exact hi)));have i1:¬((j:Int) < (j:Int)):=by omega
   clear hok;go_wp2;go_ret;exact⟨qG (by rw[hf.out]),rfl⟩
theorem Ys(w:World)(v:Value)(l:List Int)(h:IS w v l)(hl:l.length<=1099511627776):
 Cl 63 #[v,.int .i64 6] w fun e w'=>e=.returned (.bool (qP l))/\w'=w:=by
 obtain⟨a,cap,rfl,hc⟩:=h;obtain⟨n,hn⟩:∃n,n=l.length:=⟨_,rfl⟩;obtain⟨res,hres⟩:∃r,r=qP l:=⟨_,rfl⟩;rw[<-hres];have HR:=hid hres;rw[<-hn]at hc hl ⊢;have HC:=hid hc;have HN:=hid hn;clear hc hn hres;go_enter Tryz.func63,Tryz.ntmps63
 go_wp2;go_loop [9] (fun t=>∃j:Nat,j<=n/\t=.int .i64 j/\Hid (∀i,i < j->zp l i=true)) (fun t=>n - (intOf t).toNat)
 case atStart=>exact⟨0,nZ _,rfl,hid (fun i hi=>by omega)⟩
 case round=>
  obtain⟨j,hj,rfl,hok⟩:=hrel;by_cases hjn:j < n
  ·have i1:(j:Int) < (n:Int):=by omega
   rcases HC.out with h0|⟨b,o,rfl,hcell⟩
   ·omega
   ·have c1:w.cell? ⟨b,o+j,none⟩=some (.int .i64 (l.getD j 0)):=hcell j hjn;have hcs:=Z4 l j;have fin:zp l j=false->Hid (res=false):=fun e=>HR.out.trans (Z3 (by rw[<-HN.out];exact hjn) e)
    have nxt:zp l j=true->Hid (∀i,i < j+1->zp l i=true):=fun e i hi=>by
     by_cases e2:i=j
     ·rw[e2];exact e
     ·exact hok.out i (by omega)
    have c2:0 < j->w.cell? ⟨b,o+(j - 1),none⟩=some (.int .i64 (l.getD (j - 1) 0)):=fun e=>hcell (j - 1) (by omega);clear hcell hok;generalize l.getD j 0=x at *;generalize l.getD (j - 1) 0=y at *;rcases hcs with ⟨h1,h2⟩|⟨h1,h2,h3⟩|⟨h1,h2,h3,h4⟩|⟨h1,h2,h3,h4,h5⟩|⟨h1,h2,h3,h4,h5⟩
    ·have hf:=fin h2;clear c2 fin nxt h2;go_wp2_with (first|(go_at_call 66;refine(yD _ _ _ _ (by omega)).mono ?_;rintro e w' ⟨rfl,rfl⟩))
     go_ret;exact⟨qG (by rw[hf.out]),rfl⟩
    ·have hf:=fin h3;have d1:decide (x < 0)=false:=by simp;omega
     clear c2 fin nxt h3;go_wp2_with (first|(go_at_call 66;refine(yE _ _ _ _ (by omega) (by omega)).mono ?_;rintro e w' ⟨rfl,rfl⟩))
     go_ret;exact⟨qG (by rw[hf.out]),rfl⟩
    ·have hf:=nxt h4;have d1:decide (x < 0)=false:=by simp;omega
     have d2:decide (6<=x)=false:=by simp;omega
     subst h3;have c1':w.cell? ⟨b,o,none⟩=some (.int .i64 x):=by simpa using c1
     clear c2 fin nxt h4;go_wp2_with (first|(go_at_call 66;refine(qz _ _ _ _ (by omega) (by omega)).mono ?_;rintro e w' ⟨rfl,rfl⟩))
     go_round
     case rel=>exact⟨0+1,by omega,by go_num,hf⟩
     case measure=>simp[intOf];omega
    ·have hf:=fin h5;have d1:decide (x < 0)=false:=by simp;omega
     have d2:decide (6<=x)=false:=by simp;omega
     have c3:=c2 h3;have i3:(0:Int) < (j:Int):=by omega
     have i4:((j:Int) - 1).toNat=j - 1:=by omega
     clear c2 fin nxt h5;go_wp2_with (first|(go_at_call 66;refine(qz _ _ _ _ (by omega) (by omega)).mono ?_;rintro e w' ⟨rfl,rfl⟩))
     go_ret;exact⟨qG (by rw[hf.out]),rfl⟩
    ·have hf:=nxt h5;have d1:decide (x < 0)=false:=by simp;omega
     have d2:decide (6<=x)=false:=by simp;omega
     have d3:decide (x<=y)=false:=by simp;omega
     have c3:=c2 h3;have i3:(0:Int) < (j:Int):=by omega
     have i4:((j:Int) - 1).toNat=j - 1:=by omega
     clear c2 fin nxt h5;go_wp2_with (first|(go_at_call 66;refine(qz _ _ _ _ (by omega) (by omega)).mono ?_;rintro e w' ⟨rfl,rfl⟩))
     go_round
     case rel=>exact⟨j+1,by omega,by go_num,hf⟩
     case measure=>simp[intOf];omega
  ·obtain rfl:j=n:=by omega
   have hf:Hid (res=true):=HR.out.trans (uu (fun i hi=>hok.out i (by rw[HN.out];exact hi)));have i1:¬((j:Int) < (j:Int)):=by omega
   clear hok;go_wp2;go_ret;exact⟨qG (by rw[hf.out]),rfl⟩
theorem xY(h:j < l.length):l.getD j 0∈l:=by
 rw[gD,gE h];exact gM h
theorem xu{x:Int}(h:x∈l):∃j,j < l.length/\l.getD j 0=x:=by
 obtain⟨j,hj,e⟩:=gO h;exact⟨j,hj,by rw[gD,gE hj];exact e⟩
theorem zY(w:World)(v:Value)(l:List Int)(x:Int)(h:IS w v l)(hl:l.length<=1099511627776):
 Cl 46 #[v,.int .i64 x] w fun e w'=>e=.returned (.bool (decide (x∈l)))/\w'=w:=by
 obtain⟨a,cap,rfl,hc⟩:=h;obtain⟨n,hn⟩:∃n,n=l.length:=⟨_,rfl⟩;obtain⟨res,hres⟩:∃r,r=decide (x∈l):=⟨_,rfl⟩;rw[<-hres];have HR:=hid hres;rw[<-hn]at hc hl ⊢;have HC:=hid hc;have HN:=hid hn;clear hc hn hres;go_enter Tryz.func46,Tryz.ntmps46
 go_wp2;go_loop [9] (fun t=>∃j:Nat,j<=n/\t=.int .i64 j/\Hid (∀i,i < j->l.getD i 0≠x)) (fun t=>n - (intOf t).toNat)
 case atStart=>exact⟨0,nZ _,rfl,hid (fun i hi=>by omega)⟩
 case round=>
  obtain⟨j,hj,rfl,hok⟩:=hrel;by_cases hjn:j < n
  ·have i1:(j:Int) < (n:Int):=by omega
   rcases HC.out with h0|⟨b,o,rfl,hcell⟩
   ·omega
   ·have c1:w.cell? ⟨b,o+j,none⟩=some (.int .i64 (l.getD j 0)):=hcell j hjn;have fin:l.getD j 0=x->Hid (res=true):=fun e=>HR.out.trans (decide_eq_true (e ▸ xY (by rw[<-HN.out];exact hjn)))
    have nxt:l.getD j 0≠x->Hid (∀i,i < j+1->l.getD i 0≠x):=fun e i hi=>by
     by_cases e2:i=j
     ·rw[e2];exact e
     ·exact hok.out i (by omega)
    clear hcell hok;generalize l.getD j 0=y at *;by_cases hy:y=x
    ·have hf:=fin hy;subst hy;clear fin nxt;go_wp2;go_ret;exact⟨qG (by rw[hf.out]),rfl⟩
    ·have hf:=nxt hy;have d1:decide (x=y)=false:=by simp;omega
     have d2:¬(x=y):=by omega
     clear fin nxt;go_wp2;go_round
     case rel=>exact⟨j+1,by omega,by go_num,hf⟩
     case measure=>simp[intOf];omega
  ·obtain rfl:j=n:=by omega
   have hf:Hid (res=false):=HR.out.trans (decide_eq_false (fun hm=>by
    obtain⟨i,hi,e⟩:=xu hm;exact hok.out i (by rw[HN.out];exact hi) e))
   have i1:¬((j:Int) < (j:Int)):=by omega
   clear hok;go_wp2;go_ret;exact⟨qG (by rw[hf.out]),rfl⟩
theorem Uf(w:World)(v:Value)(l:List Int)(x:Int)(h:IS w v l)(hl:l.length<=1099511627776):
 Cl 100 #[v,.int .i64 x] w fun e w'=>(∃k:Int,e=.returned (.int .i64 k)/\decide (0<=k)=decide (x∈l))/\w'=w:=by
 obtain⟨a,cap,rfl,hc⟩:=h;obtain⟨n,hn⟩:∃n,n=l.length:=⟨_,rfl⟩;obtain⟨res,hres⟩:∃r,r=decide (x∈l):=⟨_,rfl⟩;rw[<-hres];have HR:=hid hres;rw[<-hn]at hc hl ⊢;have HC:=hid hc;have HN:=hid hn;clear hc hn hres;go_enter Tryz.func100,Tryz.ntmps100
 go_wp2;go_loop [8] (fun t=>∃j:Nat,j<=n/\t=.int .i64 j/\Hid (∀i,i < j->l.getD i 0≠x)) (fun t=>n - (intOf t).toNat)
 case atStart=>exact⟨0,nZ _,rfl,hid (fun i hi=>by omega)⟩
 case round=>
  obtain⟨j,hj,rfl,hok⟩:=hrel;by_cases hjn:j < n
  ·have i1:(j:Int) < (n:Int):=by omega
   rcases HC.out with h0|⟨b,o,rfl,hcell⟩
   ·omega
   ·have c1:w.cell? ⟨b,o+j,none⟩=some (.int .i64 (l.getD j 0)):=hcell j hjn;have fin:l.getD j 0=x->Hid (res=true):=fun e=>HR.out.trans (decide_eq_true (e ▸ xY (by rw[<-HN.out];exact hjn)))
    have nxt:l.getD j 0≠x->Hid (∀i,i < j+1->l.getD i 0≠x):=fun e i hi=>by
     by_cases e2:i=j
     ·rw[e2];exact e
     ·exact hok.out i (by omega)
    clear hcell hok;generalize l.getD j 0=y at *;by_cases hy:y=x
    ·have hf:=fin hy;subst hy;clear fin nxt;go_wp2;go_ret;exact⟨⟨_,rfl,by rw[hf.out];simp⟩,rfl⟩
    ·have hf:=nxt hy;have d1:decide (x=y)=false:=by simp;omega
     have d2:¬(x=y):=by omega
     clear fin nxt;go_wp2;go_round
     case rel=>exact⟨j+1,by omega,by go_num,hf⟩
     case measure=>simp[intOf];omega
  ·obtain rfl:j=n:=by omega
   have hf:Hid (res=false):=HR.out.trans (decide_eq_false (fun hm=>by
    obtain⟨i,hi,e⟩:=xu hm;exact hok.out i (by rw[HN.out];exact hi) e))
   have i1:¬((j:Int) < (j:Int)):=by omega
   clear hok;go_wp2;go_ret;exact⟨⟨_,rfl,by rw[hf.out];simp⟩,rfl⟩
theorem xl(w:World)(v:Value)(l:List Int)(x:Int)(h:IS w v l)(hl:l.length<=1099511627776):
 Cl 84 #[v,.int .i64 x] w fun e w'=>e=.returned (.bool (decide (x∈l)))/\w'=w:=by
 have HI:=hid (Uf w v l x h hl);generalize decide (x∈l)=res at *;clear h;go_enter Tryz.func84,Tryz.ntmps84
 go_wp2_with (first|(go_at_call 100;refine HI.out.mono ?_;rintro e w' ⟨⟨k,rfl,hk⟩,rfl⟩))
 go_ret;exact⟨rfl,rfl⟩
theorem Tryz.infoInt:(Tryz.prog.info? 3).map (fun i=>(i.zero,i.size,i.bytes))=some (some (.int .i64 0),1,8):=by kernel_rfl
def plc(p:Nat->Bool)(k:Nat):List Int:=((List.range k).filter p).map Int.ofNat
theorem jH(p:Nat->Bool)(k:Nat)(h:p k=true):plc p (k+1)=plc p k++[(k:Int)]:=by
 simp[plc,List.range_succ,List.filter_append,h]
theorem uM(p:Nat->Bool)(k:Nat)(h:p k=false):plc p (k+1)=plc p k:=by
 simp[plc,List.range_succ,List.filter_append,h]
theorem xd(p:Nat->Bool)(k:Nat):(plc p k).length<=k:=by
 unfold plc;rw[lM];exact bK (List.length_filter_le _ _) (by simp)
theorem jg{B:Nat}{e:TypeId}{wr w1:World}{u:Value}{o:Obj}{xs:List Value}(hB:B<=wr.heap.size)
 (hown:wr.ownsRow B e 1 u n xs) (hnx:Below B w wr) (hgrow:(wr.alloc o).grownBy w1 u.ownBlock):Below B w w1:=
 (hnx.alloc hB o).grown hgrow (by simp;omega) (fun j hj=>(hown.lt j hj).1)
theorem xR(w:World)(vb ve:Value)(bag edge:List Int)(h:IS w vb bag)(he:IS w ve edge)(hl:bag.length<=1099511627776)(hl2:edge.length<=1099511627776):
 Cl 58 #[vb,ve] w fun e w'=>∃v,e=.returned v/\
  w'.ownsRow w.heap.size 3 1 v (plc (fun i=>decide (bag.getD i 0∈edge)) bag.length).length ((plc (fun i=>decide (bag.getD i 0∈edge)) bag.length).map (Value.int .i64))/\Bl w w':=by
 obtain⟨i0,hi,hz0,hz1,hz2⟩:=info_parts Tryz.infoInt;obtain⟨p,hp⟩:∃p:Nat->Bool,p=fun i=>decide (bag.getD i 0∈edge):=⟨_,rfl⟩;rw[<-hp];obtain⟨a,cap,rfl,hc⟩:=h;obtain⟨n,hn⟩:∃n,n=bag.length:=⟨_,rfl⟩;rw[<-hn]at hc hl ⊢;have HP:=hid hp;have HC:=hid hc;have HN:=hid hn;have HE:=hid he;clear hp hc hn he;go_enter Tryz.func58,Tryz.ntmps58
 go_wp2;go_loopw [5,10] (fun v t wr=>∃k:Nat,k<=n/\t=.int .i64 k/\wr.ownsRow w.heap.size 3 1 v (plc p k).length ((plc p k).map (Value.int .i64))/\Bl w wr) (fun _ t _=>n - (intOf t).toNat)
 case atStart=>exact⟨0,nZ _,rfl,oN _ _ _ _,bI _ _⟩
 case round=>
  obtain⟨k,hk,rfl,hown,hnx⟩:=hrel;have hple:=xd p k;have hns:=hnx.size;by_cases hkn:k < n
  ·have i1:(k:Int) < (n:Int):=by omega
   rcases HC.out with h0|⟨b,o,rfl,hcell⟩
   ·omega
   ·have c0:=hcell k hkn;have c1:wr.cell? ⟨b,o+k,none⟩=some (.int .i64 (bag.getD k 0)):=(hnx.cell (p:=⟨b,o+k,none⟩) (bL w _ c0)).trans c0;have HK:=hid (xl wr ve edge (bag.getD k 0) (HE.out.below hnx) hl2);have hpk:p k=decide (bag.getD k 0∈edge):=by rw[HP.out]
    rw[<-hpk]at HK;clear hcell c0 hpk;generalize bag.getD k 0=y at *;by_cases hy:p k=true
    ·have e1:=hid (jH p k hy);rw[hy]at HK
     go_wp2_with (first
      |(go_at_call 84;refine HK.out.mono ?_;rintro e w' ⟨rfl,hw'⟩;subst w')
      |(at_builtin;refine wpList_append_own _ rfl _ _ 24 rfl w.heap.size 3 i0 (.int .i64 0) 1 8 Tryz.underlying24 hi hz0 hz1 hz2 rfl (by decide) _ _ _ rfl (hown.alloc _) ⟨wr.heap.size,0,none⟩ 1 1 [.int .i64 k] rfl rfl ?c1 ?c2 ?c3 ?c4 ?c5 ?_))
     case c1=>
      intro j u hj;match j,hj with
      |0,hj=>simp at hj;subst hj;simp[Addr.add]
     case c2=>intro u hu;simp at hu;subst hu;rfl
     case c3=>unfold maxLen;omega
     case c4=>omega
     case c5=>simp;omega
     intro v' w1 hown' hgrow _;have hb:=jg hns hown hnx hgrow
     have hown2:w1.ownsRow w.heap.size 3 1 v' (plc p (k+1)).length ((plc p (k+1)).map (Value.int .i64)):=by
      rw[e1.out];simpa using hown'
     clear hown' hgrow hown;go_wp2;go_roundw
     case rel=>exact⟨k+1,by omega,by go_num,hown2,hb⟩
     case measure=>simp[intOf];omega
    ·have hy':p k=false:=by simpa using hy
     have e1:=hid (uM p k hy');rw[hy']at HK
     go_wp2_with (first
      |(go_at_call 84;refine HK.out.mono ?_;rintro e w' ⟨rfl,hw'⟩;subst w'))
     go_roundw
     case rel=>exact⟨k+1,by omega,by go_num,by rw[e1.out];exact hown,hnx⟩
     case measure=>simp[intOf];omega
  ·obtain rfl:k=n:=by omega
   have i1:¬((k:Int) < (k:Int)):=by omega
   go_wp2;go_ret;exact⟨_,rfl,hown,hnx⟩
def ISS(w:World)(v:Value)(ls:List (List Int)):Prop:=∃a cap,v=.slice a ls.length cap/\(ls.length=0∨∃b o,a=some ⟨b,o,none⟩/\∀j,j < ls.length->∃u,w.cell? ⟨b,o+j,none⟩=some u/\IS w u (ls.getD j []))
theorem ISS.below(h:ISS w v ls)(hb:Bl w w'):ISS w' v ls:=by
 obtain⟨a,cap,rfl,h⟩:=h;refine⟨a,cap,rfl,?_⟩;rcases h with h|⟨b,o,rfl,h⟩
 ·exact Or.inl h
 ·refine Or.inr ⟨b,o,rfl,fun j hj=>?_⟩;obtain⟨u,h1,h2⟩:=h j hj;exact⟨u,(hb.cell (p:=⟨b,o+j,none⟩) (bL w _ h1)).trans h1,h2.below hb⟩
def qQ(ls:List (List Int)):Prop:=ls.length<=1099511627776/\∀j,(ls.getD j []).length<=1099511627776
theorem xk(w:World)(ve:Value)(x:Int)(es:List (List Int))(h:ISS w ve es)(hl:qQ es):
 Cl 79 #[.int .i64 x,ve] w fun e w'=>∃v,e=.returned v/\
  w'.ownsRow w.heap.size 3 1 v (plc (fun i=>decide (x∈es.getD i [])) es.length).length ((plc (fun i=>decide (x∈es.getD i [])) es.length).map (Value.int .i64))/\Bl w w':=by
 obtain⟨i0,hi,hz0,hz1,hz2⟩:=info_parts Tryz.infoInt;obtain⟨p,hp⟩:∃p:Nat->Bool,p=fun i=>decide (x∈es.getD i []):=⟨_,rfl⟩;rw[<-hp];obtain⟨a,cap,rfl,hc⟩:=h;obtain⟨hl1,hl2⟩:=hl;obtain⟨n,hn⟩:∃n,n=es.length:=⟨_,rfl⟩;rw[<-hn]at hc hl1 ⊢;have HP:=hid hp;have HC:=hid hc;have HN:=hid hn;have HL:=hid hl2;clear hp hc hn hl2;go_enter Tryz.func79,Tryz.ntmps79
 go_wp2;go_loopw [5,10] (fun v t wr=>∃k:Nat,k<=n/\t=.int .i64 k/\wr.ownsRow w.heap.size 3 1 v (plc p k).length ((plc p k).map (Value.int .i64))/\Bl w wr) (fun _ t _=>n - (intOf t).toNat)
 case atStart=>exact⟨0,nZ _,rfl,oN _ _ _ _,bI _ _⟩
 case round=>
  obtain⟨k,hk,rfl,hown,hnx⟩:=hrel;have hple:=xd p k;have hns:=hnx.size;by_cases hkn:k < n
  ·have i1:(k:Int) < (n:Int):=by omega
   rcases HC.out with h0|⟨b,o,rfl,hcell⟩
   ·omega
   ·obtain⟨u,c0,hu⟩:=hcell k hkn;have c1:wr.cell? ⟨b,o+k,none⟩=some u:=(hnx.cell (p:=⟨b,o+k,none⟩) (bL w _ c0)).trans c0;have HK:=hid (xl wr u (es.getD k []) x (hu.below hnx) (HL.out k));have hpk:p k=decide (x∈es.getD k []):=by rw[HP.out]
    rw[<-hpk]at HK;obtain⟨a1,cap1,rfl,-⟩:=hu;clear hcell c0 hpk;generalize (es.getD k []).length=m at *;by_cases hy:p k=true
    ·have e1:=hid (jH p k hy);rw[hy]at HK
     go_wp2_with (first
      |(go_at_call 84;refine HK.out.mono ?_;rintro e w' ⟨rfl,hw'⟩;subst w')
      |(at_builtin;refine wpList_append_own _ rfl _ _ 24 rfl w.heap.size 3 i0 (.int .i64 0) 1 8 Tryz.underlying24 hi hz0 hz1 hz2 rfl (by decide) _ _ _ rfl (hown.alloc _) ⟨wr.heap.size,0,none⟩ 1 1 [.int .i64 k] rfl rfl ?c1 ?c2 ?c3 ?c4 ?c5 ?_))
     case c1=>
      intro j u hj;match j,hj with
      |0,hj=>simp at hj;subst hj;simp[Addr.add]
     case c2=>intro u hu;simp at hu;subst hu;rfl
     case c3=>unfold maxLen;omega
     case c4=>omega
     case c5=>simp;omega
     intro v' w1 hown' hgrow _;have hb:=jg hns hown hnx hgrow
     have hown2:w1.ownsRow w.heap.size 3 1 v' (plc p (k+1)).length ((plc p (k+1)).map (Value.int .i64)):=by
      rw[e1.out];simpa using hown'
     clear hown' hgrow hown;go_wp2;go_roundw
     case rel=>exact⟨k+1,by omega,by go_num,hown2,hb⟩
     case measure=>simp[intOf];omega
    ·have hy':p k=false:=by simpa using hy
     have e1:=hid (uM p k hy');rw[hy']at HK
     go_wp2_with (first
      |(go_at_call 84;refine HK.out.mono ?_;rintro e w' ⟨rfl,hw'⟩;subst w'))
     go_roundw
     case rel=>exact⟨k+1,by omega,by go_num,by rw[e1.out];exact hown,hnx⟩
     case measure=>simp[intOf];omega
  ·obtain rfl:k=n:=by omega
   have i1:¬((k:Int) < (k:Int)):=by omega
   go_wp2;go_ret;exact⟨_,rfl,hown,hnx⟩
def tot(ls:List (List Int))(k:Nat):Nat:=ls.length+((ls.take k).map List.length).sum
theorem Qr(ls:List (List Int)):tot ls 0=ls.length:=by simp[tot]
theorem jZ(ls:List (List Int))(k:Nat)(h:k < ls.length):tot ls (k+1)=tot ls k+(ls.getD k []).length:=by
 unfold tot;rw[tA,gE h,gD,gE h];simp only[Option.toList_some,List.map_append,List.map_cons,List.map_nil,List.sum_append,List.sum_cons,List.sum_nil,Option.getD_some];omega
theorem Vg(ls:List (List Int)):∀(d k:Nat),k+d=ls.length->tot ls k<=tot ls ls.length:=by
 intro d;induction d with
 |zero=>intro k h;rw[show k=ls.length by omega];exact nR _
 |succ d ih=>
  intro k h;have h1:=ih (k+1) (by omega);have h2:=jZ ls k (by omega);omega
def Fits(ls:List (List Int)):Prop:=ls.length<=9223372036854775807/\∀j,(ls.getD j []).length<=9223372036854775807
theorem Qh(ls:List (List Int))(j:Nat):(ls.getD j []).length<=tot ls ls.length:=by
 by_cases h:j < ls.length
 ·have h1:=jZ ls j h;have h2:=Vg ls (ls.length - (j+1)) (j+1) (by omega);omega
 ·rw[gD,gN (by omega)];simp
theorem Vh(h:tot ls ls.length<=1048576):qQ ls:=by
 have h0:=Vg ls ls.length 0 (by omega);rw[Qr]at h0;exact⟨by omega,fun j=>by have:=Qh ls j;omega⟩
def Vi(ls:List (List Int))(left:Int):Int:=if left < tot ls ls.length then -1 else left - tot ls ls.length
theorem jx(w:World)(ve:Value)(ls:List (List Int))(left:Int)(h:ISS w ve ls)(hl:Fits ls)(h1:0<=left)(h2:left<=1048576):
 Cl 16 #[ve,.int .i64 left] w fun e w'=>e=.returned (.int .i64 (Vi ls left))/\w'=w:=by
 obtain⟨a,cap,rfl,hc⟩:=h;obtain⟨hl1,hl2⟩:=hl;obtain⟨n,hn⟩:∃n,n=ls.length:=⟨_,rfl⟩;obtain⟨res,hres⟩:∃r,r=Vi ls left:=⟨_,rfl⟩;rw[<-hres];unfold Vi at hres;rw[<-hn]at hc hl1 hres ⊢;have HR:=hid hres;have HC:=hid hc;have HN:=hid hn;have HL:=hid hl2
 have HT:Hid (∀k,k<=n->tot ls k<=tot ls n):=fun k hk=>by
  have:=Vg ls (ls.length - k) k (by rw[<-HN.out];omega);rw[<-HN.out]at this;exact this
 have HS:Hid (∀k,k < n->tot ls (k+1)=tot ls k+(ls.getD k []).length):=fun k hk=>jZ ls k (by rw[<-HN.out];exact hk);have H0:Hid (tot ls 0=n):=(Qr ls).trans HN.out.symm;clear hc hn hl2 hres;by_cases hf:left < n
 ·have hf1:left - (n:Int) < 0:=by omega
  have hf2:Hid (res=-1):=by
   have t0:=HT.out 0 (by omega);rw[H0.out]at t0;exact HR.out.trans (if_pos (by omega))
  go_enter Tryz.func16,Tryz.ntmps16
  go_wp2;go_ret;exact⟨qO hf2.out.symm,rfl⟩
 have hf1:¬(left - (n:Int) < 0):=by omega
 go_enter Tryz.func16,Tryz.ntmps16
 go_wp2;go_loop [1,5] (fun u t=>∃j:Nat,j<=n/\t=.int .i64 j/\∃c:Int,u=.int .i64 c/\0<=c/\c<=left/\Hid (c=left - tot ls j)) (fun _ t=>n - (intOf t).toNat)
 case atStart=>exact⟨0,nZ _,rfl,_,rfl,by omega,by omega,hid (by rw[H0.out])⟩
 case round=>
  obtain⟨j,hj,rfl,c,rfl,hc0,hc1,hok⟩:=hrel;by_cases hjn:j < n
  ·have i1:(j:Int) < (n:Int):=by omega
   rcases HC.out with h0|⟨b,o,rfl,hcell⟩
   ·omega
   ·obtain⟨u,c1,hu⟩:=hcell j hjn;have hs:=HS.out j hjn;have hm:=HL.out j;obtain⟨a1,cap1,rfl,-⟩:=hu;have ht:=HT.out (j+1) (by omega);have ho:=hok.out;have hr:=HR.out;clear hcell hok;generalize (ls.getD j []).length=m at *;have HK:=hid (xq w a1 m cap1 c hc0 (by omega) (by omega));by_cases hcm:c < m
    ·have hf:Hid (res=-1):=hid (hr.trans (if_pos (by omega)));rw[if_pos hcm]at HK;clear hs ht ho hr;go_wp2_with (first|(go_at_call 17;refine HK.out.mono ?_;rintro e w' ⟨rfl,hw'⟩;subst w'))
     go_ret;exact⟨qO hf.out.symm,rfl⟩
    ·have hf:Hid (c - m=left - tot ls (j+1)):=hid (by omega);have hc2:¬(c - (m:Int) < 0):=by omega
     rw[if_neg hcm]at HK;clear hs ht ho hr;go_wp2_with (first|(go_at_call 17;refine HK.out.mono ?_;rintro e w' ⟨rfl,hw'⟩;subst w'))
     go_round
     case rel=>exact⟨j+1,by omega,by go_num,_,rfl,by omega,by omega,hf⟩
     case measure=>simp[intOf];omega
  ·obtain rfl:j=n:=by omega
   have ho:=hok.out;have hf:Hid (res=c):=HR.out.trans (by rw[if_neg (by omega)];omega);have i1:¬((j:Int) < (j:Int)):=by omega
   clear hok ho;go_wp2;go_ret;exact⟨qO hf.out.symm,rfl⟩
end Go.Proofs.YtjbpgdpciinlcaaGreat
