import Derived.Test.YtjbpgdpciinlcaaGreatBg04
set_option maxHeartbeats 40000000
set_option maxRecDepth 1000000
namespace Go.Proofs.YtjbpgdpciinlcaaGreat
open Go.RowKit
variable {j n:Nat}{p:Nat->Bool}{w:World}
structure Half(w:World)(G n j:Nat)(ls:List (List Int))(f:Nat->Nat):Prop where
 cell:∀i,i < n->w.cell? ⟨G,i,none⟩=some (if i < j then .slice (some ⟨f i,0,none⟩) (ls.getD i []).length (ls.getD i []).length else .slice none 0 0)
 free:∀i,i < n->w.frozen? ⟨G,i,none⟩=false
 own:∀i,i < j->OwnI w (f i) (ls.getD i [])
 gt:∀i,i < j->G < f i
 up:∀i k,i < k->k < j->f i < f k
theorem Half.step{w1:World}{G:Nat}{ls:List (List Int)}{f:Nat->Nat}(h:Half w G n j ls f)(hj:j < n)(hG:G < w.heap.size)
 (ho:OwnI w1 w.heap.size (ls.getD j [])) (hb:Bl w w1):
 Half (w1.setCell ⟨G,j,none⟩ (.slice (some ⟨w.heap.size,0,none⟩) (ls.getD j []).length (ls.getD j []).length)) G n (j+1) ls (fun i=>if i=j then w.heap.size else f i):=by
 have hc:∀i,i < n->w1.cell? ⟨G,i,none⟩=some (if i < j then .slice (some ⟨f i,0,none⟩) (ls.getD i []).length (ls.getD i []).length else .slice none 0 0):=
  fun i hi=>(hb.cell (p:=⟨G,i,none⟩) hG).trans (h.cell i hi)
 have hsz:∀(a:Addr) (v:Value),(w1.setCell a v).heap.size=w1.heap.size:=fun a v=>by simp[World.setCell]
 refine⟨fun i hi=>?_,fun i hi=>?_,fun i hi=>?_,fun i hi=>?_,fun i k hik hk=>?_⟩
 ·by_cases e:i=j
  ·subst e;rw[if_pos (by omega),if_pos rfl];exact bF _ _ _ (hc i hi)
  ·rw[bC _ _ _ _ (by intro e2;simp only[Addr.mk.injEq]at e2;omega),hc i hi,if_neg e];by_cases e2:i < j
   ·rw[if_pos e2,if_pos (by omega)]
   ·rw[if_neg e2,if_neg (by omega)]
 ·rw[fS];exact(World.frozen?_of_block (w:=w) (a:=⟨G,i,none⟩) (hb.block G hG)).trans (h.free i hi)
 ·by_cases e:i=j
  ·subst e;rw[if_pos rfl];exact ho.move (bD _ _ _ _ (by show w.heap.size≠G;omega)) (by rw[hsz];exact nR _)
  ·rw[if_neg e];have hgt:=h.gt i (by omega);exact((h.own i (by omega)).below hb).move (bD _ _ _ _ (by show f i≠G;omega)) (by rw[hsz];exact nR _)
 ·show G < (if i=j then w.heap.size else f i);by_cases e:i=j
  ·rw[if_pos e];exact hG
  ·rw[if_neg e];exact h.gt i (by omega)
 ·show(if i=j then w.heap.size else f i) < (if k=j then w.heap.size else f k);rw[if_neg (by omega)];by_cases e:k=j
  ·rw[if_pos e];exact(h.own i (by omega)).lt
  ·rw[if_neg e];exact h.up i k hik (by omega)
theorem jy(w:World)(v:Value)(ls:List (List Int))(h:ISS w v ls)(hl:qQ ls):
 Cl 25 #[v] w fun e w'=>e=.returned (.slice (some ⟨w.heap.size,0,none⟩) ls.length ls.length)/\(∃f,Half w' w.heap.size ls.length ls.length ls f)/\w.heap.size < w'.heap.size/\Bl w w':=by
 obtain⟨a,cap,rfl,hc⟩:=h;obtain⟨hl1,hl2⟩:=hl;obtain⟨n,hn⟩:∃n,n=ls.length:=⟨_,rfl⟩;rw[<-hn]at hc hl1 ⊢;have hmk:=run_make_row' (P:=Tryz.prog) 23 24 (.slice none 0 0) 24 Tryz.underlying23 (by kernel_rfl) rfl .i64 .i64 n (by omega) (by omega);have hb0:=heap_alloc_new w (.cells (madeCells #[.slice none 0 0] n) 24);have hA0:∀j,j < n->(w.alloc (.cells (madeCells #[.slice none 0 0] n) 24)).cell? ⟨w.heap.size,j,none⟩=some (.slice none 0 0):=fun j hj=>by rw[cell_of_row _ _ _ _ _ _ hb0];exact Vf _ _ _ hj
 have hF0:∀j,(w.alloc (.cells (madeCells #[.slice none 0 0] n) 24)).frozen? ⟨w.heap.size,j,none⟩=false:=fun j=>by unfold World.frozen?;rw[hb0];simp
 have HA0:=hid hA0;have HF0:=hid hF0;clear hA0 hF0 hb0;have HC:=hid hc;have HN:=hid hn;have HL:=hid hl2;clear hc hn hl2;go_enter Tryz.func25,Tryz.ntmps25
 go_wp2;go_loopw [4] (fun t wr=>∃j:Nat,j<=n/\t=.int .i64 j/\Bl w wr/\w.heap.size < wr.heap.size/\Hid (∃f,Half wr w.heap.size n j ls f)) (fun t _=>n - (intOf t).toNat)
 case atStart=>exact⟨0,nZ _,rfl,(bI _ _).alloc (nR _) _,by simp,hid ⟨fun _=>0,fun i hi=>by rw[if_neg (by omega)];exact HA0.out i hi,fun i _=>HF0.out i,fun i hi=>by omega,fun i hi=>by omega,fun i k _ hk=>by omega⟩⟩
 case round=>
  obtain⟨j,hj,rfl,hB,hlt,hH⟩:=hrel;by_cases hjn:j < n
  ·have i1:(j:Int) < (n:Int):=by omega
   rcases HC.out with h0|⟨b,o,rfl,hcell⟩
   ·omega
   ·obtain⟨u,c0,hu⟩:=hcell j hjn;have c1:wr.cell? ⟨b,o+j,none⟩=some u:=(hB.cell (p:=⟨b,o+j,none⟩) (bL w _ c0)).trans c0;have HK:=hid (xp wr u (ls.getD j []) (hu.below hB) (HL.out j));obtain⟨a1,cap1,rfl,-⟩:=hu
    have c2:wr.cell? ⟨w.heap.size,j,none⟩=some (.slice none 0 0):=by
     obtain⟨f,hf⟩:=hH.out;exact(hf.cell j hjn).trans (by rw[if_neg (by omega)])
    have c3:wr.frozen? ⟨w.heap.size,j,none⟩=false:=by
     obtain⟨f,hf⟩:=hH.out;exact hf.free j hjn
    have HS:Hid (∀w1,OwnI w1 wr.heap.size (ls.getD j [])->Bl wr w1->∃f,Half (w1.setCell ⟨w.heap.size,j,none⟩ (.slice (some ⟨wr.heap.size,0,none⟩) (ls.getD j []).length (ls.getD j []).length)) w.heap.size n (j+1) ls f):=fun w1 ho hb=>by
     obtain⟨f,hf⟩:=hH.out;exact⟨_,hf.step hjn hlt ho hb⟩
    clear hcell c0 hH;go_wp2_with (first|(go_at_call 26;refine HK.out.mono ?_;rintro e w1 ⟨rfl,ho,hb⟩;have c4:w1.cell? ⟨w.heap.size,j,none⟩=some (.slice none 0 0):=(hb.cell (p:=⟨w.heap.size,j,none⟩) hlt).trans c2;have c5:w1.frozen? ⟨w.heap.size,j,none⟩=false:=(World.frozen?_of_block (w:=wr) (a:=⟨w.heap.size,j,none⟩) (hb.block w.heap.size hlt)).trans c3;have HO:=hid ho;have HB:=hid hb;clear ho hb))
    go_roundw
    case rel=>exact⟨j+1,by omega,by go_num,(bt hB HB.out).setCell (nR _) _,by have:=HB.out.size;simp[World.setCell];omega,hid (HS.out _ HO.out HB.out)⟩
    case measure=>simp[intOf];omega
  ·obtain rfl:j=n:=by omega
   have i1:¬((j:Int) < (j:Int)):=by omega
   go_wp2;go_ret;exact⟨rfl,hH.out,hlt,hB⟩
theorem zM{wr:World}(k:Nat)(h:∃m,wr=w.drewN m):∃m,wr.drewN k=w.drewN m:=by
 obtain⟨m,rfl⟩:=h;exact⟨m+k,World.drewN_drewN _ _ _⟩
theorem uK(w:World)(v v':Value)(l:List Int)(h:IS w v l)(h':IS w v' l)(hl:l.length<=1099511627776):
 Cl 35 #[v,v'] w fun e w'=>e=.returned (.bool true)/\∃m,w'=w.drewN m:=by
 obtain⟨a,cap,rfl,hc⟩:=h;obtain⟨a',cap',rfl,hc'⟩:=h';obtain⟨n,hn⟩:∃n,n=l.length:=⟨_,rfl⟩;rw[<-hn]at hc hc' hl ⊢;have HC:=hid hc;have HC':=hid hc';clear hc hc' hn;have hne:((n:Int) != (n:Int))=false:=by simp
 go_enter Tryz.func35,Tryz.ntmps35
 go_wp2;go_loopw [5] (fun t wr=>∃j:Nat,j<=n/\t=.int .i64 j/\Hid (∃m,wr=w.drewN m)) (fun t _=>n - (intOf t).toNat)
 case atStart=>exact⟨0,nZ _,rfl,hid ⟨0,rfl⟩⟩
 case round=>
  obtain⟨j,hj,rfl,hB⟩:=hrel;by_cases hjn:j < n
  ·have i1:(j:Int) < (n:Int):=by omega
   rcases HC.out with h0|⟨b,o,rfl,hcell⟩
   ·omega
   ·rcases HC'.out with h0|⟨b',o',rfl,hcell'⟩
    ·omega
    ·have c1:wr.cell? ⟨b,o+j,none⟩=some (.int .i64 (l.getD j 0)):=by obtain⟨m,rfl⟩:=hB.out;exact hcell j hjn
     have c2:wr.cell? ⟨b',o'+j,none⟩=some (.int .i64 (l.getD j 0)):=by obtain⟨m,rfl⟩:=hB.out;exact hcell' j hjn
     obtain⟨x,hx⟩:∃x,x=l.getD j 0:=⟨_,rfl⟩;rw[<-hx]at c1 c2;have hxx:(x != x)=false:=by simp
     clear hcell hcell' hx;go_wp2_with fail
     go_quiet (fail)
     go_wp2;go_roundw
     case rel=>exact⟨j+1,by omega,by go_num,hid (zM _ hB.out)⟩
     case measure=>simp[intOf];omega
  ·obtain rfl:j=n:=by omega
   have i1:¬((j:Int) < (j:Int)):=by omega
   go_wp2;go_ret;exact⟨rfl,hB.out⟩
theorem jz(w:World)(v v':Value)(ls:List (List Int))(h:ISS w v ls)(h':ISS w v' ls)(hl:qQ ls):
 Cl 34 #[v,v'] w fun e w'=>e=.returned (.bool true)/\∃m,w'=w.drewN m:=by
 obtain⟨a,cap,rfl,hc⟩:=h;obtain⟨a',cap',rfl,hc'⟩:=h';obtain⟨hl1,hl2⟩:=hl;obtain⟨n,hn⟩:∃n,n=ls.length:=⟨_,rfl⟩;rw[<-hn]at hc hc' hl1 ⊢;have HC:=hid hc;have HC':=hid hc';have HL:=hid hl2;clear hc hc' hn hl2;have hne:((n:Int) != (n:Int))=false:=by simp
 go_enter Tryz.func34,Tryz.ntmps34
 go_wp2;go_loopw [5] (fun t wr=>∃j:Nat,j<=n/\t=.int .i64 j/\Hid (∃m,wr=w.drewN m)) (fun t _=>n - (intOf t).toNat)
 case atStart=>exact⟨0,nZ _,rfl,hid ⟨0,rfl⟩⟩
 case round=>
  obtain⟨j,hj,rfl,hB⟩:=hrel;by_cases hjn:j < n
  ·have i1:(j:Int) < (n:Int):=by omega
   rcases HC.out with h0|⟨b,o,rfl,hcell⟩
   ·omega
   ·rcases HC'.out with h0|⟨b',o',rfl,hcell'⟩
    ·omega
    ·obtain⟨u,d1,hu⟩:=hcell j hjn;obtain⟨u',d2,hu'⟩:=hcell' j hjn;have c1:wr.cell? ⟨b,o+j,none⟩=some u:=by obtain⟨m,rfl⟩:=hB.out;exact d1
     have c2:wr.cell? ⟨b',o'+j,none⟩=some u':=by obtain⟨m,rfl⟩:=hB.out;exact d2
     have HK:Hid (∀q,Cl 35 #[u,u'] (wr.drewN q) fun e w'=>e=.returned (.bool true)/\∃m,w'=(wr.drewN q).drewN m):=fun q=>by
      obtain⟨m,rfl⟩:=hB.out;exact uK _ u u' (ls.getD j []) hu hu' (HL.out j)
     obtain⟨a1,cap1,rfl,-⟩:=hu;obtain⟨a2,cap2,rfl,-⟩:=hu';clear hcell hcell' d1 d2;go_wp2_with fail
     go_quiet ((go_at_call 35;exact Calls.quiet_of (HK.out _)))
     go_wp2;go_roundw
     case rel=>exact⟨j+1,by omega,by go_num,hid (zM _ hB.out)⟩
     case measure=>simp[intOf];omega
  ·obtain rfl:j=n:=by omega
   have i1:¬((j:Int) < (j:Int)):=by omega
   go_wp2;go_ret;exact⟨rfl,hB.out⟩
def zL(es:List (List Int)):Bool:=decide (es.length<=7)&&es.all qP
def xc(bag:List Int)(es:List (List Int)):Bool:=bag.all fun x=>es.any fun e=>decide (x∈e)
theorem yy{α:Type}(p:α->Bool)(d:α)(l:List α)(h:∀i,i < l.length->p (l.getD i d)=true):l.all p=true:=by
 rw[aT];intro x hx;obtain⟨j,hj,e⟩:=gO hx;have:=h j hj;rw[gD,gE hj]at this;rw[<-e];exact this
theorem zu{α:Type}(p:α->Bool)(d:α)(l:List α)(j:Nat)(hj:j < l.length)(h:p (l.getD j d)=false):l.all p=false:=by
 rw[List.all_eq_false];rw[gD,gE hj]at h;exact⟨_,gM hj,by simpa using h⟩
theorem Qd(p:Nat->Bool)(k:Nat):(plc p k).length=0↔∀i,i < k->p i=false:=by
 unfold plc;rw[lM,List.length_eq_zero_iff,List.filter_eq_nil_iff];simp
theorem Js(x:Int)(es:List (List Int)):(es.any fun e=>decide (x∈e))=!decide ((plc (fun i=>decide (x∈es.getD i [])) es.length).length=0):=by
 cases hb:(es.any fun e=>decide (x∈e))
 ·rw[eq_comm,Bool.not_eq_false',dE,Qd];intro i hi;rw[List.any_eq_false]at hb;have:=hb _ (gM hi);rw[gD,gE hi];simpa using this
 ·rw[eq_comm,Bool.not_eq_true',decide_eq_false_iff_not,Qd];intro hall;rw[List.any_eq_true]at hb;obtain⟨e,he,h2⟩:=hb;obtain⟨j,hj,e1⟩:=gO he;have:=hall j hj;rw[gD,gE hj]at this;simp only[Option.getD_some,e1]at this;rw[this]at h2;exact Bool.noConfusion h2
theorem jB(w:World)(ve:Value)(es:List (List Int))(h:ISS w ve es)(hl:qQ es):
 Cl 77 #[ve] w fun e w'=>e=.returned (.bool (zL es))/\w'=w:=by
 obtain⟨a,cap,rfl,hc⟩:=h;obtain⟨hl1,hl2⟩:=hl;obtain⟨n,hn⟩:∃n,n=es.length:=⟨_,rfl⟩;obtain⟨res,hres⟩:∃r,r=zL es:=⟨_,rfl⟩;rw[<-hres];rw[<-hn]at hc hl1 ⊢;have HR:=hid hres;have HC:=hid hc;have HN:=hid hn;have HL:=hid hl2;clear hc hn hl2 hres;by_cases h7:7 < n
 ·have hf:Hid (res=false):=HR.out.trans (by unfold zL;rw[<-HN.out,decide_eq_false (by omega)];rfl);have i7:(7:Int) < (n:Int):=by omega
  go_enter Tryz.func77,Tryz.ntmps77
  go_wp2;go_ret;exact⟨qG (by rw[hf.out]),rfl⟩
 have i7:¬(7:Int) < (n:Int):=by omega
 go_enter Tryz.func77,Tryz.ntmps77
 go_wp2;go_loop [10] (fun t=>∃j:Nat,j<=n/\t=.int .i64 j/\Hid (∀i,i < j->qP (es.getD i [])=true)) (fun t=>n - (intOf t).toNat)
 case atStart=>exact⟨0,nZ _,rfl,hid (fun i hi=>by omega)⟩
 case round=>
  obtain⟨j,hj,rfl,hok⟩:=hrel;by_cases hjn:j < n
  ·have i1:(j:Int) < (n:Int):=by omega
   rcases HC.out with h0|⟨b,o,rfl,hcell⟩
   ·omega
   ·obtain⟨u,c1,hu⟩:=hcell j hjn;have HK:=hid (zP w u (es.getD j []) hu (HL.out j));obtain⟨a1,cap1,rfl,-⟩:=hu
    have fin:qP (es.getD j [])=false->Hid (res=false):=fun e=>HR.out.trans (by
     unfold zL;rw[zu qP [] es j (by rw[<-HN.out];exact hjn) e,Bool.and_false])
    have nxt:qP (es.getD j [])=true->Hid (∀i,i < j+1->qP (es.getD i [])=true):=fun e i hi=>by
     by_cases e2:i=j
     ·rw[e2];exact e
     ·exact hok.out i (by omega)
    clear hcell hok;generalize (es.getD j []).length=m at *;generalize qP (es.getD j [])=y at *;cases y
    ·have hf:=fin rfl;clear fin nxt;go_wp2_with (first|(go_at_call 75;refine HK.out.mono ?_;rintro e w' ⟨rfl,hw'⟩;subst w'))
     go_ret;exact⟨qG (by rw[hf.out]),rfl⟩
    ·have hf:=nxt rfl;clear fin nxt;go_wp2_with (first|(go_at_call 75;refine HK.out.mono ?_;rintro e w' ⟨rfl,hw'⟩;subst w'))
     go_round
     case rel=>exact⟨j+1,by omega,by go_num,hf⟩
     case measure=>simp[intOf];omega
  ·obtain rfl:j=n:=by omega
   have hf:Hid (res=true):=HR.out.trans (by
    unfold zL;rw[<-HN.out,decide_eq_true (by omega),Bool.true_and];exact yy qP [] es (fun i hi=>hok.out i (by rw[HN.out];exact hi)))
   have i1:¬((j:Int) < (j:Int)):=by omega
   clear hok;go_wp2;go_ret;exact⟨qG (by rw[hf.out]),rfl⟩
theorem YW(w:World)(vb ve:Value)(bag:List Int)(es:List (List Int))(hb:IS w vb bag)(h:ISS w ve es)(hlb:bag.length<=1099511627776)(hl:qQ es):
 Cl 93 #[vb,ve] w fun e w'=>e=.returned (.bool (xc bag es))/\Bl w w':=by
 obtain⟨a,cap,rfl,hc⟩:=hb;obtain⟨n,hn⟩:∃n,n=bag.length:=⟨_,rfl⟩;obtain⟨res,hres⟩:∃r,r=xc bag es:=⟨_,rfl⟩;rw[<-hres];rw[<-hn]at hc hlb ⊢;have HR:=hid hres;have HC:=hid hc;have HN:=hid hn;have HE:=hid h;have HL:=hid hl;clear hc hn h hl hres;go_enter Tryz.func93,Tryz.ntmps93
 go_wp2;go_loopw [9] (fun t wr=>∃j:Nat,j<=n/\t=.int .i64 j/\Bl w wr/\Hid (∀i,i < j->(es.any fun e=>decide (bag.getD i 0∈e))=true)) (fun t _=>n - (intOf t).toNat)
 case atStart=>exact⟨0,nZ _,rfl,bI _ _,hid (fun i hi=>by omega)⟩
 case round=>
  obtain⟨j,hj,rfl,hnx,hok⟩:=hrel;by_cases hjn:j < n
  ·have i1:(j:Int) < (n:Int):=by omega
   rcases HC.out with h0|⟨b,o,rfl,hcell⟩
   ·omega
   ·have c0:=hcell j hjn;have c1:wr.cell? ⟨b,o+j,none⟩=some (.int .i64 (bag.getD j 0)):=(hnx.cell (p:=⟨b,o+j,none⟩) (bL w _ c0)).trans c0;have HK:=hid (xk wr ve (bag.getD j 0) es (HE.out.below hnx) HL.out);have hany:=Js (bag.getD j 0) es
    have fin:(es.any fun e=>decide (bag.getD j 0∈e))=false->Hid (res=false):=fun e=>HR.out.trans (by
     unfold xc;exact zu (fun x=>es.any fun e=>decide (x∈e)) 0 bag j (by rw[<-HN.out];exact hjn) e)
    have nxt:(es.any fun e=>decide (bag.getD j 0∈e))=true->Hid (∀i,i < j+1->(es.any fun e=>decide (bag.getD i 0∈e))=true):=fun e i hi=>by
     by_cases e2:i=j
     ·rw[e2];exact e
     ·exact hok.out i (by omega)
    have hlen:=xd (fun i=>decide (bag.getD j 0∈es.getD i [])) es.length;have hll:=HL.out.1;clear hcell hok c0;generalize bag.getD j 0=x at *;generalize plc (fun i=>decide (x∈es.getD i [])) es.length=pl at *;generalize (es.any fun e=>decide (x∈e))=y at *;obtain⟨m,hm⟩:∃m,m=pl.length:=⟨_,rfl⟩;rw[<-hm]at hany hlen HK;have hm7:m<=1099511627776:=by omega
    clear hlen hll hm;cases y
    ·have hf:=fin rfl;have hm0:m=0:=by simpa using hany
     clear fin nxt hany;subst hm0;go_wp2_with (first|(go_at_call 79;refine HK.out.mono ?_;rintro e w' ⟨v,rfl,⟨hv1,(⟨rfl,hv2⟩|⟨g,cap',cur,rfl,hv2⟩)⟩,hbw⟩))
     all_goals go_ret
     all_goals exact⟨qG (by rw[hf.out]),bt hnx hbw⟩
    ·have hf:=nxt rfl;have hm0:m≠0:=by simpa using hany
     have hm1:¬((m:Int)=0):=by omega
     clear fin nxt hany;go_wp2_with (first|(go_at_call 79;refine HK.out.mono ?_;rintro e w' ⟨v,rfl,⟨hv1,(⟨rfl,hv2⟩|⟨g,cap',cur,rfl,hv2⟩)⟩,hbw⟩))
     ·exact absurd hv2 hm0
     go_roundw
     case rel=>exact⟨j+1,by omega,by go_num,bt hnx hbw,hf⟩
     case measure=>simp[intOf];omega
  ·obtain rfl:j=n:=by omega
   have hf:Hid (res=true):=HR.out.trans (by
    unfold xc;exact yy (fun x=>es.any fun e=>decide (x∈e)) 0 bag (fun i hi=>hok.out i (by rw[HN.out];exact hi)))
   have i1:¬((j:Int) < (j:Int)):=by omega
   clear hok;go_wp2;go_ret;exact⟨qG (by rw[hf.out]),hnx⟩
def zR(k:Int)(l:List Int):Bool:=decide (l.length=0)||decide (l.getD (l.length - 1) 0 < k)
def zN(es:List (List Int))(x:Int):Bool:=es.any fun e=>decide (x∈e)
def zb(k:Int)(es:List (List Int)):Bool:=decide (0<=k)&&decide (k<=6)&&zL es&&es.all (zR k)&&(List.range k.toNat).all fun v=>zN es (v:Int)
def zj(k:Int)(b:List Int):Bool:=!decide (b.length=0)&&qP b&&zR k b
def ye(k:Int)(bags:List (List Int)):Bool:=decide (bags.length<=12)&&bags.all (zj k)
def yP(n:Int)(ps:List Int)(i:Nat):Bool:=decide (ps.getD i 0=-1)||(decide ((i:Int) < ps.getD i 0)&&decide (ps.getD i 0 < n))
def vG(ps:List Int)(n:Int):Bool:=decide ((ps.length:Int)=n)&&(List.range ps.length).all (yP n ps)
theorem qI{w':World}{a:Addr}{v:Value}(hb:Bl w w')(h:w.cell? a=some v):w'.cell? a=some v:=
 (hb.cell (bL w _ h)).trans h
theorem qZ(hj:j < n)(h:p j=false):(List.range n).all p=false:=by
 rw[List.all_eq_false];exact⟨j,by simpa using hj,by rw[h];decide⟩
theorem qa(h:∀i,i < n->p i=true):(List.range n).all p=true:=by
 rw[aT];intro i hi;exact h i (by simpa using hi)
theorem j9(w:World)(v:Value)(l:List Int)(k:Int)(h:IS w v l)(hl:l.length<=1099511627776):
 Cl 78 #[v,.int .i64 k] w fun e w'=>e=.returned (.bool (zR k l))/\w'=w:=by
 obtain⟨a,cap,rfl,hc⟩:=h;obtain⟨res,hres⟩:∃r,r=zR k l:=⟨_,rfl⟩;rw[<-hres];rcases Nat.eq_zero_or_pos l.length with h0|hp
 ·have hr:res=true:=by rw[hres];simp[zR,h0]
  subst hr;rw[h0];clear hc hres;go_enter Tryz.func78,Tryz.ntmps78
  go_wp2;go_ret;exact⟨rfl,rfl⟩
 ·rcases hc with h0|⟨b,o,rfl,hcell⟩
  ·omega
  have c1:=hcell (l.length - 1) (by omega)
  have hr:Hid (res=decide (l.getD (l.length - 1) 0 < k)):=by
   show res=_;rw[hres];unfold zR;rw[decide_eq_false (by omega),Bool.false_or]
  have i4:((l.length:Int) - 1).toNat=l.length - 1:=by omega
  have d1:¬((l.length:Int)=0):=by omega
  clear hcell hres;generalize l.getD (l.length - 1) 0=y at *;generalize l.length=n at *;go_enter Tryz.func78,Tryz.ntmps78
  go_wp2;go_ret;exact⟨qG (by rw[hr.out,show((n:Int) == 0)=false by simp;omega,Bool.false_or]),rfl⟩
theorem Zq(w:World)(ve:Value)(k:Int)(es:List (List Int))(h:ISS w ve es)(hl:qQ es):
 Cl 52 #[.int .i64 k,ve] w fun e w'=>e=.returned (.bool (zb k es))/\Bl w w':=by
 have KE:=hid (jB w ve es h hl);have HE:=hid h;obtain⟨a,cap,rfl,hc⟩:=h;obtain⟨hl1,hl2⟩:=hl;have HS:Hid (qQ es):=hid ⟨hl1,hl2⟩;obtain⟨res,hres⟩:∃r,r=zb k es:=⟨_,rfl⟩;rw[<-hres];have HR:=hid hres;have HC:=hid hc;have HL:=hid hl2;clear hc hl2 hres;by_cases hk0:k < 0
 ·have hf:res=false:=by rw[HR.out];unfold zb;rw[decide_eq_false (by omega)];simp
  subst hf;go_enter Tryz.func52,Tryz.ntmps52
  go_wp2_with fail
  go_ret;exact⟨rfl,bI _ _⟩
 by_cases hk6:6 < k
 ·have hf:res=false:=by rw[HR.out];unfold zb;rw[decide_eq_false (by omega:¬k<=6)];simp
  subst hf;have d1:¬(k < 0):=hk0;go_enter Tryz.func52,Tryz.ntmps52
  go_wp2_with fail
  go_ret;exact⟨rfl,bI _ _⟩
 have d1:¬(k < 0):=hk0;have d2:¬(6 < k):=hk6;cases hB:zL es
 ·have hf:res=false:=by rw[HR.out];unfold zb;rw[hB];simp
  subst hf;rw[hB]at KE;go_enter Tryz.func52,Tryz.ntmps52
  go_wp2_with fail
  refine KE.out.mono ?_;rintro e w1 ⟨rfl,hw1⟩;subst w1;go_wp2_with fail
  go_ret;exact⟨rfl,bI _ _⟩
 rw[hB]at KE
 have HF1:Hid (∀j,j < es.length->zR k (es.getD j [])=false->res=false):=hid fun j hj e=>by
  rw[HR.out];unfold zb;rw[zu (zR k) [] es j hj e];simp
 have HF2:Hid (∀v,v < k.toNat->zN es (v:Int)=false->res=false):=hid fun v hv e=>by
  rw[HR.out];unfold zb;rw[qZ hv e];simp
 have HT:Hid ((∀j,j < es.length->zR k (es.getD j [])=true)->(∀v,v < k.toNat->zN es (v:Int)=true)->res=true):=hid fun h1 h2=>by
  rw[HR.out];unfold zb;rw[hB,decide_eq_true (by omega:0<=k),decide_eq_true (by omega:k<=6),yy (zR k) [] es h1,qa h2];rfl
 clear HR hB;obtain⟨n,hn⟩:∃n,n=es.length:=⟨_,rfl⟩;rw[<-hn]at HF1 HT hl1 HC KE HE ⊢;have HN:=hid hn;clear hn;go_enter Tryz.func52,Tryz.ntmps52
 go_wp2_with fail
 refine KE.out.mono ?_;rintro e w1 ⟨rfl,hw1⟩;subst w1;go_wp2_with fail
 go_loop [21] (fun t=>∃j:Nat,j<=n/\t=.int .i64 j/\Hid (∀i,i < j->zR k (es.getD i [])=true)) (fun t=>n - (intOf t).toNat)
 case atStart=>exact⟨0,nZ _,rfl,hid (fun i hi=>by omega)⟩
 case round=>
  obtain⟨j,hj,rfl,hok⟩:=hrel;by_cases hjn:j < n
  ·have i1:(j:Int) < (n:Int):=by omega
   rcases HC.out with h0|⟨b,o,rfl,hcell⟩
   ·omega
   ·obtain⟨u,c1,hu⟩:=hcell j hjn;have HK:=hid (j9 w u (es.getD j []) k hu (HL.out j));obtain⟨a1,cap1,rfl,-⟩:=hu;have fin:=HF1.out j hjn
    have nxt:zR k (es.getD j [])=true->Hid (∀i,i < j+1->zR k (es.getD i [])=true):=fun e i hi=>by
     by_cases e2:i=j
     ·rw[e2];exact e
     ·exact hok.out i (by omega)
    clear hcell hok;generalize (es.getD j []).length=m at *;generalize zR k (es.getD j [])=y at *;cases y
    ·obtain rfl:=fin rfl;clear nxt;go_wp2_with fail
     refine HK.out.mono ?_;rintro e w1 ⟨rfl,hw1⟩;subst w1;go_wp2_with fail
     go_ret;exact⟨rfl,bI _ _⟩
    ·have hf:=nxt rfl;clear fin nxt;go_wp2_with fail
     refine HK.out.mono ?_;rintro e w1 ⟨rfl,hw1⟩;subst w1;go_wp2_with fail
     go_round
     case rel=>exact⟨j+1,by omega,by go_num,hf⟩
     case measure=>simp[intOf];omega
  ·obtain rfl:j=n:=by omega
   have HT2:Hid ((∀v,v < k.toNat->zN es (v:Int)=true)->res=true):=hid (HT.out hok.out);have i1:¬((j:Int) < (j:Int)):=by omega
   clear hok HT HF1;obtain⟨q,hq⟩:∃q:Nat,q=k.toNat:=⟨_,rfl⟩;obtain rfl:k=(q:Int):=by omega
   rw[<-hq]at HT2 HF2;clear hq hk0 hk6;have hq6:q<=6:=by omega
   go_wp2_with fail
   go_loopw [31] (fun t wr=>∃v:Nat,v<=q/\t=.int .i64 v/\Bl w wr/\Hid (∀i:Nat,i < v->zN es (i:Int)=true)) (fun t _=>q - (intOf t).toNat)
   case atStart=>exact⟨0,nZ _,rfl,bI _ _,hid (fun i hi=>by omega)⟩
   case round=>
    obtain⟨v,hv,rfl,hnx,hok⟩:=hrel;by_cases hvq:v < q
    ·have i2:(v:Int) < (q:Int):=by omega
     have HK:=hid (xk wr _ (v:Int) es (HE.out.below hnx) HS.out);have hany:zN es (v:Int)=_:=Js (v:Int) es;have fin:=HF2.out v hvq
     have nxt:zN es (v:Int)=true->Hid (∀i:Nat,i < v+1->zN es (i:Int)=true):=fun e i hi=>by
      by_cases e2:i=v
      ·rw[e2];exact e
      ·exact hok.out i (by omega)
     have hlen:=xd (fun i=>decide ((v:Int)∈es.getD i [])) es.length;have hll:=HS.out.1;clear hok;generalize plc (fun i=>decide ((v:Int)∈es.getD i [])) es.length=pl at *;generalize zN es (v:Int)=y at *;obtain⟨m,hm⟩:∃m,m=pl.length:=⟨_,rfl⟩;rw[<-hm]at hany hlen HK;have hm7:m<=1099511627776:=by omega
     clear hlen hll hm;cases y
     ·obtain rfl:=fin rfl;have hm0:m=0:=by simpa using hany
      clear nxt hany;subst hm0;go_wp2_with fail
      refine HK.out.mono ?_;rintro e w' ⟨v,rfl,⟨hv1,(⟨rfl,hv2⟩|⟨g,cap',cur,rfl,hv2⟩)⟩,hbw⟩;all_goals go_wp2_with fail
      all_goals go_ret
      all_goals exact⟨rfl,bt hnx hbw⟩
     ·have hf:=nxt rfl;have hm0:m≠0:=by simpa using hany
      have hm1:¬((m:Int)=0):=by omega
      clear fin nxt hany;go_wp2_with fail
      refine HK.out.mono ?_;rintro e w' ⟨u,rfl,⟨hv1,(⟨rfl,hv2⟩|⟨g,cap',cur,rfl,hv2⟩)⟩,hbw⟩
      ·exact absurd hv2 hm0
      go_wp2_with fail
      go_roundw
      case rel=>exact⟨v+1,by omega,by go_num,bt hnx hbw,hf⟩
      case measure=>simp[intOf];omega
    ·obtain rfl:v=q:=by omega
     obtain rfl:=HT2.out hok.out;have i2:¬((v:Int) < (v:Int)):=by omega
     clear hok;go_wp2_with fail
     go_ret;exact⟨rfl,hnx⟩
theorem Yj(w:World)(ve:Value)(k:Int)(bs:List (List Int))(h:ISS w ve bs)(hl:qQ bs):
 Cl 53 #[.int .i64 k,ve] w fun e w'=>e=.returned (.bool (ye k bs))/\w'=w:=by
 obtain⟨a,cap,rfl,hc⟩:=h;obtain⟨hl1,hl2⟩:=hl;obtain⟨res,hres⟩:∃r,r=ye k bs:=⟨_,rfl⟩;rw[<-hres];have HR:=hid hres;have HC:=hid hc;have HL:=hid hl2;clear hc hl2 hres;by_cases h12:12 < bs.length
 ·have hf:res=false:=by rw[HR.out];unfold ye;rw[decide_eq_false (by omega)];rfl
  subst hf;have i1:(12:Int) < (bs.length:Int):=by omega
  go_enter Tryz.func53,Tryz.ntmps53
  go_wp2_with fail
  go_ret;exact⟨rfl,rfl⟩
 have HF:Hid (∀j,j < bs.length->zj k (bs.getD j [])=false->res=false):=hid fun j hj e=>by
  rw[HR.out];unfold ye;rw[zu (zj k) [] bs j hj e];simp
 have HT:Hid ((∀j,j < bs.length->zj k (bs.getD j [])=true)->res=true):=hid fun h1=>by
  rw[HR.out];unfold ye;rw[decide_eq_true (by omega),yy (zj k) [] bs h1];rfl
 clear HR;have d1:¬((12:Int) < (bs.length:Int)):=by omega
 obtain⟨n,hn⟩:∃n,n=bs.length:=⟨_,rfl⟩;rw[<-hn]at HF HT hl1 HC d1 ⊢;clear hn h12;go_enter Tryz.func53,Tryz.ntmps53
 go_wp2_with fail
 go_loop [12] (fun t=>∃j:Nat,j<=n/\t=.int .i64 j/\Hid (∀i,i < j->zj k (bs.getD i [])=true)) (fun t=>n - (intOf t).toNat)
 case atStart=>exact⟨0,nZ _,rfl,hid (fun i hi=>by omega)⟩
 case round=>
  obtain⟨j,hj,rfl,hok⟩:=hrel;by_cases hjn:j < n
  ·have i1:(j:Int) < (n:Int):=by omega
   rcases HC.out with h0|⟨b,o,rfl,hcell⟩
   ·omega
   ·obtain⟨u,c1,hu⟩:=hcell j hjn;have HK:=hid (j9 w u (bs.getD j []) k hu (HL.out j));have HV:=hid (zP w u (bs.getD j []) hu (HL.out j));obtain⟨a1,cap1,rfl,-⟩:=hu;have fin:=HF.out j hjn
    have nxt:zj k (bs.getD j [])=true->Hid (∀i,i < j+1->zj k (bs.getD i [])=true):=fun e i hi=>by
     by_cases e2:i=j
     ·rw[e2];exact e
     ·exact hok.out i (by omega)
    have hb:zj k (bs.getD j [])=(!decide ((bs.getD j []).length=0)&&qP (bs.getD j [])&&zR k (bs.getD j [])):=rfl;have hml:=HL.out j;clear hcell hok;generalize zj k (bs.getD j [])=y at *;generalize (bs.getD j []).length=m at *;generalize zR k (bs.getD j [])=y1 at *;generalize qP (bs.getD j [])=y2 at *;by_cases hm0:m=0
    ·subst hm0;obtain rfl:=fin (by rw[hb];rfl);clear nxt;go_wp2_with fail
     go_ret;exact⟨rfl,rfl⟩
    have hm1:¬((m:Int)=0):=by omega
    rw[decide_eq_false hm0,Bool.not_false,Bool.true_and]at hb;cases y2
    ·obtain rfl:=fin (by rw[hb];rfl);clear nxt;go_wp2_with fail
     refine HV.out.mono ?_;rintro e w1 ⟨rfl,hw1⟩;subst w1;go_wp2_with fail
     go_ret;exact⟨rfl,rfl⟩
    rw[Bool.true_and]at hb;cases y1
    ·obtain rfl:=fin hb;clear nxt;go_wp2_with fail
     refine HV.out.mono ?_;rintro e w1 ⟨rfl,hw1⟩;subst w1;go_wp2_with fail
     refine HK.out.mono ?_;rintro e w1 ⟨rfl,hw1⟩;subst w1;go_wp2_with fail
     go_ret;exact⟨rfl,rfl⟩
    have hf:=nxt hb;clear fin nxt;go_wp2_with fail
    refine HV.out.mono ?_;rintro e w1 ⟨rfl,hw1⟩;subst w1;go_wp2_with fail
    refine HK.out.mono ?_;rintro e w1 ⟨rfl,hw1⟩;subst w1;go_wp2_with fail
    go_round
    case rel=>exact⟨j+1,by omega,by go_num,hf⟩
    case measure=>simp[intOf];omega
  ·obtain rfl:j=n:=by omega
   obtain rfl:=HT.out hok.out;have i1:¬((j:Int) < (j:Int)):=by omega
   clear hok;go_wp2_with fail
   go_ret;exact⟨rfl,rfl⟩
theorem Q6(w:World)(v:Value)(ps:List Int)(q:Int)(h:IS w v ps)(hl:ps.length<=1099511627776):
 Cl 54 #[v,.int .i64 q] w fun e w'=>e=.returned (.bool (vG ps q))/\w'=w:=by
 obtain⟨a,cap,rfl,hc⟩:=h;obtain⟨res,hres⟩:∃r,r=vG ps q:=⟨_,rfl⟩;rw[<-hres];have HR:=hid hres;have HC:=hid hc;clear hc hres;by_cases hq:(ps.length:Int)=q
 case neg=>
  have hf:res=false:=by rw[HR.out];unfold vG;rw[decide_eq_false hq];rfl
  subst hf;have i1:((ps.length:Int) != q)=true:=by simpa using hq
  go_enter Tryz.func54,Tryz.ntmps54
  go_wp2_with fail
  go_ret;exact⟨rfl,rfl⟩
 subst hq
 have HF:Hid (∀j,j < ps.length->yP ps.length ps j=false->res=false):=hid fun j hj e=>by
  rw[HR.out];unfold vG;rw[qZ hj e];simp
 have HT:Hid ((∀j,j < ps.length->yP ps.length ps j=true)->res=true):=hid fun h1=>by
  rw[HR.out];unfold vG;rw[decide_eq_true rfl,qa h1];rfl
 clear HR;have d1:(((ps.length:Int)) != (ps.length:Int))=false:=by simp
 have HP:Hid (∀j,yP ps.length ps j=(decide (ps.getD j 0=-1)||(decide ((j:Int) < ps.getD j 0)&&decide (ps.getD j 0 < (ps.length:Int))))):=hid fun j=>rfl;obtain⟨n,hn⟩:∃n,n=ps.length:=⟨_,rfl⟩;rw[<-hn]at HF HT hl HC d1 HP ⊢;clear hn;go_enter Tryz.func54,Tryz.ntmps54
 go_wp2_with fail
 go_loop [13] (fun t=>∃j:Nat,j<=n/\t=.int .i64 j/\Hid (∀i,i < j->yP n ps i=true)) (fun t=>n - (intOf t).toNat)
 case atStart=>exact⟨0,nZ _,rfl,hid (fun i hi=>by omega)⟩
 case round=>
  obtain⟨j,hj,rfl,hok⟩:=hrel;by_cases hjn:j < n
  ·have i1:(j:Int) < (n:Int):=by omega
   rcases HC.out with h0|⟨b,o,rfl,hcell⟩
   ·omega
   ·have c1:=hcell j hjn;have fin:=HF.out j hjn
    have nxt:yP n ps j=true->Hid (∀i,i < j+1->yP n ps i=true):=fun e i hi=>by
     by_cases e2:i=j
     ·rw[e2];exact e
     ·exact hok.out i (by omega)
    have hp:=HP.out j;clear hcell hok;generalize yP n ps j=y at *;generalize ps.getD j 0=x at *;by_cases h1:x=-1
    ·subst h1;have hf:=nxt (by rw[hp];rfl);clear fin nxt hp;go_wp2_with fail
     go_round
     case rel=>exact⟨j+1,by omega,by go_num,hf⟩
     case measure=>simp[intOf];omega
    have e1:(x != -1)=true:=by simpa using h1
    rw[decide_eq_false h1,Bool.false_or]at hp;by_cases h2:x<=(j:Int)
    ·obtain rfl:=fin (by rw[hp,decide_eq_false (by omega)];rfl);clear nxt hp;go_wp2_with fail
     go_ret;exact⟨rfl,rfl⟩
    rw[decide_eq_true (by omega:(j:Int) < x),Bool.true_and]at hp;by_cases h3:(n:Int)<=x
    ·obtain rfl:=fin (by rw[hp,decide_eq_false (by omega)]);clear nxt hp;go_wp2_with fail
     go_ret;exact⟨rfl,rfl⟩
    have hf:=nxt (by rw[hp,decide_eq_true (by omega)]);clear fin nxt hp;go_wp2_with fail
    go_round
    case rel=>exact⟨j+1,by omega,by go_num,hf⟩
    case measure=>simp[intOf];omega
  ·obtain rfl:j=n:=by omega
   obtain rfl:=HT.out hok.out;have i1:¬((j:Int) < (j:Int)):=by omega
   clear hok;go_wp2_with fail
   go_ret;exact⟨rfl,rfl⟩
end Go.Proofs.YtjbpgdpciinlcaaGreat
