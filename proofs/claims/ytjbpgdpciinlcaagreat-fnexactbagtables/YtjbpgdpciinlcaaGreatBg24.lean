import Derived.Test.YtjbpgdpciinlcaaGreatBg10
import Derived.Test.YtjbpgdpciinlcaaGreatBg23
set_option maxHeartbeats 40000000
set_option maxRecDepth 1000000
namespace Go.Proofs.YtjbpgdpciinlcaaGreat
open Go.RowKit
variable {B cap g i m n u:Nat}{bar bar':Nat->Bool}{A C:Nat->Nat->Rat}{f:Nat->Rat}{w:World}
def zC:Value:=.agg #[.int .i64 0,.int .i64 0,.int .i64 0,.int .i64 0,.int .i64 0,.int .i64 0,.int .i64 0,.int .i64 0,.int .i64 0,.int .i64 0,.int .i64 0,.int .i64 0,.int .i64 0,.int .i64 0,.int .i64 0,.int .i64 0,.int .i64 0,.int .i64 0,.int .i64 0,.int .i64 0]
theorem QE:zC.cells.size=20:=rfl
theorem Tryz.infoCs:(Tryz.prog.info? 160).map (fun i=>(i.zero,i.size,i.bytes))=some (some zC,20,160):=by kernel_rfl
theorem qCp(a b:Nat)(v:Int)(w:World):(Instr.buildSlice 157 1 #[(0,.agg (qJ a b v).toArray)]).run Tryz.prog w=.ok (.slice (some ⟨w.heap.size,0,none⟩) 1 1) (w.alloc (.cells (qJ a b v).toArray 160)):=by kernel_rfl
theorem yR(a b:Nat)(v:Int):∀u∈qJ a b v,u.oneCell'=true:=by
 intro u hu;unfold qJ qv at hu;obtain⟨j,-,rfl⟩:=List.mem_map.1 hu;rfl
theorem qj(a b:Nat)(v:Int):(qJ a b v).length=20:=vC _ _
def xm(u m n:Nat)(below:Bool):List (Nat×Nat×Int):=if below then [(n - m,n,1),(0,u,1)] else [(0,u,-1)]
def qi(u m n:Nat)(below:Bool)(k:Nat):List (Nat×Nat×Int):=xm u m n below++(List.range k).map fun j=>(j,j+1,1)
def zk(l:List (Nat×Nat×Int)):List Value:=l.flatMap fun t=>qJ t.1 t.2.1 t.2.2
theorem ZK(u m n:Nat)(below:Bool)(k:Nat):qi u m n below (k+1)=qi u m n below k++[(k,k+1,1)]:=by
 unfold qi;rw[List.range_succ,mA,<-List.append_assoc];rfl
theorem uA(u m n:Nat)(below:Bool)(k:Nat):(qi u m n below k).length=k+(if below then 2 else 1):=by
 unfold qi xm;cases below <;> simp
theorem Xs(l:List (Nat×Nat×Int))(t:Nat×Nat×Int):zk (l++[t])=zk l++qJ t.1 t.2.1 t.2.2:=by
 unfold zk;rw[List.flatMap_append];simp
theorem uV(w:World)(xs:List Value)(t:TypeId):∀j u,xs[j]?=some u->(w.alloc (.cells xs.toArray t)).cell? ((⟨w.heap.size,0,none⟩:Addr).add j)=some u:=by
 have:=World.news_of_block (heap_alloc_new w (.cells xs.toArray t));simpa using this
theorem qBe(a b c d:Nat)(v v':Int):∃Z:Array Value,List.foldl (fun (cs:Array Value) (x:Value×Nat)=>cs.setIfInBounds x.snd x.fst) #[.int .i64 0,.int .i64 0,.int .i64 0,.int .i64 0,.int .i64 0,.int .i64 0,.int .i64 0,.int .i64 0,.int .i64 0,.int .i64 0,.int .i64 0,.int .i64 0,.int .i64 0,.int .i64 0,.int .i64 0,.int .i64 0,.int .i64 0,.int .i64 0,.int .i64 0,.int .i64 0,.int .i64 0,.int .i64 0,.int .i64 0,.int .i64 0,.int .i64 0,.int .i64 0,.int .i64 0,.int .i64 0,.int .i64 0,.int .i64 0,.int .i64 0,.int .i64 0,.int .i64 0,.int .i64 0,.int .i64 0,.int .i64 0,.int .i64 0,.int .i64 0,.int .i64 0,.int .i64 0] (qJ a b v).zipIdx=Z/\Z.size=40/\List.foldl (fun (cs:Array Value) (x:Value×Nat)=>cs.setIfInBounds (20+x.snd) x.fst) Z (qJ c d v').zipIdx=(qJ a b v++qJ c d v').toArray:=⟨_,rfl,by kernel_rfl,by kernel_rfl⟩
theorem qDn{op:Oper}{act:Act}{K:Act->World->Prop}{Q:Exit->Act->World->Prop}(x:Operand)(a b:Nat)(v:Int)(ho:op.op=.buildSlice 157 1 #[(0,x)])(hx:act.eval x=.agg (qJ a b v).toArray)
 (h:K (act.put op.dst (.slice (some ⟨w.heap.size,0,none⟩) 1 1)) (w.alloc (.cells (qJ a b v).toArray 160))):op.wp Tryz.prog act w K Q:=by
 have e:(#[(0,x)]:Array (Nat×Operand)).map (fun p=>(p.1,act.eval p.2))=#[(0,.agg (qJ a b v).toArray)]:=by simp[hx]
 unfold Oper.wp execOp;simp only[ho,Sem.run_bind,Sem.run_pure];rw[e,qCp];exact h
theorem jM{ops:Array Oper}{rest:List Oper}{op:Oper}{act:Act}{Q:Exit->Act->World->Prop}(hgd:op.guard=none)(x:Operand)(a b:Nat)(v:Int)(ho:op.op=.buildSlice 157 1 #[(0,x)])(hx:act.eval x=.agg (qJ a b v).toArray)
 (h:wpList Tryz.prog ops Q rest (act.put op.dst (.slice (some ⟨w.heap.size,0,none⟩) 1 1)) (w.alloc (.cells (qJ a b v).toArray 160))):wpList Tryz.prog ops Q (op::rest) act w:=
 wpList_plain hgd fun _ hK=>qDn x a b v ho hx (hK _ _ h)
theorem J9(w:World)(u m:Nat)(a:Option Addr)(cap:Nat)(hu:u<=7):
 Cl 117 #[.agg #[.int .i64 u,.slice a m cap,.bool false]] w fun e w'=>∃v,e=.returned v/\w'.ownsRow w.heap.size 160 20 v (u+1) (zk (qi u m (u+m) false u))/\Bl w w':=by
 obtain⟨i0,hi,hz0,hz1,hz2⟩:=info_parts Tryz.infoCs;have hbx:Bl w (w.alloc (.cells #[.int .i64 u,.slice a m cap,.bool false] 121)):=(bI _ _).alloc (nR _) _;have hc0:(w.alloc (.cells #[.int .i64 u,.slice a m cap,.bool false] 121)).cell? ⟨w.heap.size,0,none⟩=some (.int .i64 u):=by simp[go_sem]
 have hsx:w.heap.size < (w.alloc (.cells #[.int .i64 u,.slice a m cap,.bool false] 121)).heap.size:=by simp
 have HX:=hid (And.intro hbx (And.intro hc0 hsx));clear hbx hc0 hsx;go_enter Tryz.func117,Tryz.ntmps117
 go_wp2_with (first|(go_at_call 143;refine(xC _ 0 u (-1) (by omega)).mono ?_;rintro e w2 ⟨rfl,hb⟩)|(refine jM rfl _ 0 u (-1) rfl (by rfl) ?_)|(at_builtin;refine wpList_append_own _ rfl _ _ 157 rfl w.heap.size 160 i0 zC 20 160 Tryz.underlying157 hi hz0 hz1 hz2 QE (by decide) _ _ _ rfl (oN _ _ _ _) ⟨w2.heap.size,0,none⟩ 1 1 (qJ 0 u (-1)) rfl ?c0 ?c1 ?c2 ?c3 ?c4 ?c5 ?_))
 case c0=>rw[qj]
 case c1=>exact uV w2 (qJ 0 u (-1)) 160
 case c2=>exact yR _ _ _
 case c3=>unfold maxLen;omega
 case c4=>omega
 case c5=>have:=hb.size;simp at this ⊢;omega
 intro v1 w3 hown hgrow _
 have hB3:Bl w w3:=by
  have hb2:Bl w w2:=bt HX.out.1 hb;exact(hb2.alloc hb2.size _).grown hgrow (by have:=hb2.size;simp;omega) (fun j hj=>by cases hj)
 have hown0:w3.ownsRow w.heap.size 160 20 v1 1 (zk (qi u m (u+m) false 0)):=by
  have:zk (qi u m (u+m) false 0)=[]++qJ 0 u (-1):=by simp[zk,qi,xm]
  rw[this];exact hown
 have c3:w3.cell? ⟨w.heap.size,0,none⟩=some (.int .i64 u):=by
  have h1:=HX.out.2.2;have h2:=hb.size;have e1:w3.heap[w.heap.size]?=w2.heap[w.heap.size]?:=(hgrow.block _ (by simp at h1 h2 ⊢;omega) (by simp[Value.ownBlock])).trans (Below.heap_alloc _ _ _ (by omega));exact(bE (w:=w2) (a:=⟨w.heap.size,0,none⟩) e1).trans ((hb.cell (p:=⟨w.heap.size,0,none⟩) h1).trans HX.out.2.1)
 clear hown hgrow hb HX;go_wp2;go_loopw [3,32] (fun v t wr=>∃k:Nat,k<=u/\t=.int .i64 k/\wr.ownsRow w.heap.size 160 20 v (k+1) (zk (qi u m (u+m) false k))/\Bl w wr) (fun _ t _=>u - (intOf t).toNat)
 case atStart=>exact⟨0,nZ _,rfl,hown0,hB3⟩
 case round=>
  clear c3 hown0 hB3;obtain⟨k,hk,rfl,hown,hnx⟩:=hrel;have hns:=hnx.size;by_cases hku:k < u
  ·have i1:(k:Int) < (u:Int):=by omega
   have HS:Hid (zk (qi u m (u+m) false (k+1))=zk (qi u m (u+m) false k)++qJ k (k+1) 1):=hid (by rw[ZK,Xs]);have K1:Hid (∀W,Cl 143 #[.int .i64 (k:Nat),.int .i64 ((k:Int)+1),.int .i64 1] W fun e w'=>e=.returned (.agg (qJ k (k+1) 1).toArray)/\Bl W w'):=hid (fun W=>xC W k (k+1) 1 (by omega));go_wp2_with (first|(go_at_call 143;refine(K1.out _).mono ?_;rintro e w2 ⟨rfl,hb⟩;have hown2:=qB hown hb;have hB2:=bt hnx hb;have hs2:=hB2.size)|(refine jM rfl _ k (k+1) 1 rfl (by rfl) ?_)|(at_builtin;refine wpList_append_own _ rfl _ _ 157 rfl w.heap.size 160 i0 zC 20 160 Tryz.underlying157 hi hz0 hz1 hz2 QE (by decide) _ _ _ rfl (hown2.alloc _) ⟨w2.heap.size,0,none⟩ 1 1 (qJ k (k+1) 1) rfl ?c0 ?c1 ?c2 ?c3 ?c4 ?c5 ?_))
   case c0=>rw[qj]
   case c1=>exact uV w2 (qJ k (k+1) 1) 160
   case c2=>exact yR _ _ _
   case c3=>unfold maxLen;omega
   case c4=>omega
   case c5=>simp;omega
   intro v' w1 hown' hgrow _;have hB1:=zG hs2 hown2 hB2 hgrow;rw[<-HS.out]at hown';clear hgrow hown hown2 hb hB2 hnx;go_wp2;go_roundw
   case rel=>exact⟨k+1,by omega,by go_num,hown',hB1⟩
   case measure=>simp[intOf];omega
  ·obtain rfl:k=u:=by omega
   have i1:¬((k:Int) < (k:Int)):=by omega
   go_wp2;go_ret;exact⟨_,rfl,hown,hnx⟩
theorem qAZ(w:World)(u m:Nat)(a:Option Addr)(cap:Nat)(hu:u<=7)(hm:m<=6):
 Cl 117 #[.agg #[.int .i64 u,.slice a m cap,.bool true]] w fun e w'=>∃v,e=.returned v/\w'.ownsRow w.heap.size 160 20 v (u+2) (zk (qi u m (u+m+m) true u))/\Bl w w':=by
 obtain⟨i0,hi,hz0,hz1,hz2⟩:=info_parts Tryz.infoCs;have hcol:Hid (∀wx,Cl 141 #[.agg #[.int .i64 u,.slice a m cap,.bool true]] wx fun e w'=>e=.returned (.int .i64 ((u+m+m:Nat):Int))/\Bl wx w'):=hid (fun wx=>jw wx u a m cap true hu (by omega));have hA0:ArrAt (w.alloc (.cells #[.int .i64 u,.slice a m cap,.bool true] 121)) w.heap.size 3 (f3 (.int .i64 u) (.slice a m cap) (.bool true)):=qt w 3 (f3 (.int .i64 u) (.slice a m cap) (.bool true)) 121;have hbx:Bl w (w.alloc (.cells #[.int .i64 u,.slice a m cap,.bool true] 121)):=(bI _ _).alloc (nR _) _;have hsx:w.heap.size < (w.alloc (.cells #[.int .i64 u,.slice a m cap,.bool true] 121)).heap.size:=by simp
 obtain⟨nn,hnn⟩:∃nn:Nat,nn=u+m+m:=⟨_,rfl⟩;rw[<-hnn]at hcol ⊢;obtain⟨nm,hnm⟩:∃nm:Nat,nm=nn - m:=⟨_,rfl⟩;have hn19:nn<=19:=by omega
 have hle:(m:Int)<=(nn:Int):=by omega
 have HSUB:Hid ((nn:Int) - (m:Int)=(nm:Int)):=hid (by omega);have HNM:=hid hnm;clear hnn hnm;go_enter Tryz.func117,Tryz.ntmps117
 go_upto_region 3 with fail
 generalize w.alloc (.cells #[.int .i64 u,.slice a m cap,.bool true] 121)=W at *;obtain⟨e0,e1,e2⟩:=hA0.three;go_cut [4] (fun v wc=>v=.int .i64 nm/\Bl w wc/\ArrAt wc w.heap.size 3 (f3 (.int .i64 u) (.slice a m cap) (.bool true)))
 case first=>
  go_region_law (first|(go_simp;go_at_call 141;refine(hcol.out _).mono ?_;rintro e w' ⟨rfl,hb⟩;have r1:w'.cell? ⟨w.heap.size,1,none⟩=some (.slice a m cap):=(hb.cell (p:=⟨w.heap.size,1,none⟩) hsx).trans e1))
  all_goals
   go_wp2_with fail
   go_meet
   exact⟨by rw[HSUB.out,wrap_small nm (by have:=HNM.out;omega)],bt hbx (qS hb),hA0.below (by omega) (qS hb)⟩
 case rest=>
  obtain⟨rfl,hBc,hAc⟩:=hcut;have hA1:=hid hAc;obtain⟨d0,d1,d2⟩:=hAc.three;have hwc:w.heap.size < wc.heap.size:=bL wc _ d0;have K1:Hid (∀W,Cl 143 #[.int .i64 (nm:Nat),.int .i64 (nn:Nat),.int .i64 1] W fun e w'=>e=.returned (.agg (qJ nm nn 1).toArray)/\Bl W w'):=hid (fun W=>xC W nm nn 1 (by omega));have K2:Hid (∀W,Cl 143 #[.int .i64 0,.int .i64 (u:Nat),.int .i64 1] W fun e w'=>e=.returned (.agg (qJ 0 u 1).toArray)/\Bl W w'):=hid (fun W=>xC W 0 u 1 (by omega));have hBd:Bl wc wc.drew:=(bI _ _).drew;have L1:(qJ nm nn 1).length=20:=qj _ _ _;have L2:(qJ 0 u 1).length=20:=qj _ _ _;obtain⟨Z1,L3,L4⟩:=qBe nm nn 0 u 1 1;have L5:Z1.size=40:=L4.1;clear hsx hbx hA0 e0 e1 e2;go_upto_region 4 with fail
  go_cut [3] (fun v wx=>wx.ownsRow w.heap.size 160 20 v 2 (zk (qi u m nn true 0))/\Bl w wx/\wx.cell? ⟨w.heap.size,0,none⟩=some (.int .i64 u))
  case first=>
   go_region_law (first
    |(refine step_append_lies _ (by rfl) _ _ _ (by rfl) w.heap.size 160 i0 zC 20 160 Tryz.underlying157 hi hz0 hz1 hz2 QE (by decide) (.slice none 0 0) 0 [] (by rfl) (oN _ _ _ _) ⟨_,0,none⟩ 2 2 (qJ nm nn 1++qJ 0 u 1) (by rfl) (by rw[lA,qj,qj]) (uV _ (qJ nm nn 1++qJ 0 u 1) 160) (fun x hx=>by rcases List.mem_append.1 hx with h|h;exact yR _ _ _ x h;exact yR _ _ _ x h) (by decide) (by unfold maxLen;omega) (by omega) (by have:=hBn.size;simp at this ⊢;omega) _ rfl ?_;intro g3 cp3 w4 hown4 hgrow hat4 hlt4)
    |(go_simp;go_at_call 141;with_reducible refine(hcol.out _).mono ?_;rintro e w1 ⟨rfl,hb1⟩;have hBn:Bl wc w1:=bt (by assumption) hb1;have hAn:=hAc.below (by omega) hBn;obtain⟨g0,g1,g2⟩:=hAn.three)
    |(go_simp;go_at_call 143;with_reducible refine(K1.out _).mono ?_;rintro e w2 ⟨rfl,hb2⟩;have hBn:Bl wc w2:=bt (by assumption) hb2;have hAn:=hAc.below (by omega) hBn;obtain⟨g0,g1,g2⟩:=hAn.three)
    |(go_simp;go_at_call 143;with_reducible refine(K2.out _).mono ?_;rintro e w3 ⟨rfl,hb3⟩;have hBn:Bl wc w3:=bt (by assumption) hb3;have hAn:=hAc.below (by omega) hBn;obtain⟨g0,g1,g2⟩:=hAn.three))
   all_goals
    go_wp2_with fail
    go_meet
    have hBt:Bl w _:=bt hBc hBn
    refine⟨?_,(hBt.alloc hBt.size _).grown hgrow (by have:=hBt.size;simp;omega) (fun j hj=>by cases hj),?_⟩
    ·have:zk (qi u m nn true 0)=[]++(qJ nm nn 1++qJ 0 u 1):=by simp[zk,qi,xm,HNM.out]
     rw[this];exact hown4
    ·exact(bE (a:=⟨w.heap.size,0,none⟩) ((hgrow.block _ (by have:=hBn.size;show w.heap.size < _;simp;omega) (by simp[Value.ownBlock])).trans (Below.heap_alloc _ _ _ (by have:=hBn.size;show w.heap.size < _;omega)))).trans g0
  case rest=>
   obtain⟨hown0,hB3,c3⟩:=hcut;clear hA1 d0 d1 d2 hwc hBd K1 K2 hBc hAc;go_wp2;go_loopw [3,32] (fun v t wr=>∃k:Nat,k<=u/\t=.int .i64 k/\wr.ownsRow w.heap.size 160 20 v (k+2) (zk (qi u m nn true k))/\Bl w wr) (fun _ t _=>u - (intOf t).toNat)
   case atStart=>exact⟨0,nZ _,rfl,hown0,hB3⟩
   case round=>
    clear c3 hown0 hB3;obtain⟨k,hk,rfl,hown,hnx⟩:=hrel;have hns:=hnx.size;by_cases hku:k < u
    ·have i1:(k:Int) < (u:Int):=by omega
     have HS:Hid (zk (qi u m nn true (k+1))=zk (qi u m nn true k)++qJ k (k+1) 1):=hid (by rw[ZK,Xs]);have K1:Hid (∀W,Cl 143 #[.int .i64 (k:Nat),.int .i64 ((k:Int)+1),.int .i64 1] W fun e w'=>e=.returned (.agg (qJ k (k+1) 1).toArray)/\Bl W w'):=hid (fun W=>xC W k (k+1) 1 (by omega));go_wp2_with (first|(go_at_call 143;refine(K1.out _).mono ?_;rintro e w2 ⟨rfl,hb⟩;have hown2:=qB hown hb;have hB2:=bt hnx hb;have hs2:=hB2.size)|(refine jM rfl _ k (k+1) 1 rfl (by rfl) ?_)|(at_builtin;refine wpList_append_own _ rfl _ _ 157 rfl w.heap.size 160 i0 zC 20 160 Tryz.underlying157 hi hz0 hz1 hz2 QE (by decide) _ _ _ rfl (hown2.alloc _) ⟨w2.heap.size,0,none⟩ 1 1 (qJ k (k+1) 1) rfl ?c0 ?c1 ?c2 ?c3 ?c4 ?c5 ?_))
     case c0=>rw[qj]
     case c1=>exact uV w2 (qJ k (k+1) 1) 160
     case c2=>exact yR _ _ _
     case c3=>unfold maxLen;omega
     case c4=>omega
     case c5=>simp;omega
     intro v' w1 hown' hgrow _;have hB1:=zG hs2 hown2 hB2 hgrow;rw[<-HS.out]at hown';clear hgrow hown hown2 hb hB2 hnx;go_wp2;go_roundw
     case rel=>exact⟨k+1,by omega,by go_num,hown',hB1⟩
     case measure=>simp[intOf];omega
    ·obtain rfl:k=u:=by omega
     have i1:¬((k:Int) < (k:Int)):=by omega
     go_wp2;go_ret;exact⟨_,rfl,hown,hnx⟩
theorem Tryz.infoFr:(Tryz.prog.info? 119).map (fun i=>(i.zero,i.size,i.bytes))=some (some (.agg #[.int .i64 0,.int .i64 0]),2,16):=by kernel_rfl
def yr(C:Nat->Nat->Rat)(B:Nat->Nat)(n:Nat):Nat->Nat->Rat
 |0,_=>0
 |i+1,j=>if B i=j then C i n else yr C B n i j
structure FrAt(w:World)(g u:Nat)(f:Nat->Rat):Prop where
 num:∀j,j < u->w.cell? ⟨g,j*2,none⟩=some (.int .i64 (f j).num)
 den:∀j,j < u->w.cell? ⟨g,j*2+1,none⟩=some (.int .i64 (f j).den)
 free:∀q,q < u*2->w.frozen? ⟨g,q,none⟩=false
theorem FrAt.set(h:FrAt w g u f)(hi:i < u)(q:Rat):
 FrAt ((w.setCell ⟨g,i*2,none⟩ (.int .i64 q.num)).setCell ⟨g,i*2+1,none⟩ (.int .i64 q.den)) g u (fun j=>if i=j then q else f j) where
 num j hj:=by
  show _=some (Value.int .i64 (if i=j then q else f j).num);by_cases e:i=j
  ·subst e;rw[if_pos rfl,bC _ _ _ _ (by intro e;simp only[Addr.mk.injEq]at e;omega)];exact bF _ _ _ (h.num i hi)
  ·rw[if_neg e,bC _ _ _ _ (by intro e;simp only[Addr.mk.injEq]at e;omega),bC _ _ _ _ (by intro e;simp only[Addr.mk.injEq]at e;omega)];exact h.num j hj
 den j hj:=by
  show _=some (Value.int .i64 ((if i=j then q else f j).den:Nat));by_cases e:i=j
  ·subst e;rw[if_pos rfl];refine bF _ _ _ (u:=.int .i64 (f i).den) ?_;rw[bC _ _ _ _ (by intro e;simp only[Addr.mk.injEq]at e;omega)];exact h.den i hi
  ·rw[if_neg e,bC _ _ _ _ (by intro e;simp only[Addr.mk.injEq]at e;omega),bC _ _ _ _ (by intro e;simp only[Addr.mk.injEq]at e;omega)];exact h.den j hj
 free q hq:=by rw[fS,fS];exact h.free q hq
theorem FrAt.drew(h:FrAt w g u f):FrAt w.drew g u f:=⟨h.num,h.den,h.free⟩
theorem qEX(n:Nat)(j:Nat)(h:j < n*2):(madeCells #[Value.int .i64 0,.int .i64 0] (n*2)).toList[j]?=some (.int .i64 0):=by
 rw[Array.getElem?_toList];simp only[madeCells];rw[Array.getElem?_map,Array.getElem?_range,if_pos h];rcases Nat.mod_two_eq_zero_or_one j with e|e
 ·simp[e]
 ·simp[e]
theorem VW(w:World)(k m n u:Nat)(C:Nat->Nat->Rat)(B:Nat->Nat)(bar:Nat->Bool)(h:SxAt w k m n C B bar)(hu:u<=1000)(hun:u<=n):
 Cl 119 #[.pointer (some ⟨k,0,none⟩),.int .i64 u] w fun e w'=>e=.returned (.slice (some ⟨w.heap.size,0,none⟩) u u)/\FrAt w' w.heap.size u (yr C B n m)/\w.heap.size < w'.heap.size/\Bl w w':=by
 obtain⟨i0,hi,hz0,hz1,hz2⟩:=info_parts Tryz.infoFr;have hm7:=h.lay.mle;have hn19:=h.lay.nle;have HS:=hid h;have hkl:=h.lt;clear h;go_enter Tryz.func119,Tryz.ntmps119
 go_wp2_with (at_make;refine wpList_make_full _ rfl _ _ 117 rfl w.heap.size 119 i0 (.agg #[.int .i64 0,.int .i64 0]) 2 Tryz.underlying117 hi hz0 hz1 _ _ _ _ u rfl rfl rfl rfl ?b2 ?b3 (nR _) ?_)
 case b2=>rw[hz2];omega
 case b3=>unfold maxLen;omega
 intro w0 hown0 hgrow0;have hb0:Bl w w0:=(bI _ _).grown hgrow0 (nR _) (fun j hj=>by cases hj);have hlt0:w.heap.size < w0.heap.size:=(hown0.lt _ rfl).2
 have hF0:(∀q,q < u*2->w0.cell? ⟨w.heap.size,q,none⟩=some (.int .i64 0))/\∀q,w0.frozen? ⟨w.heap.size,q,none⟩=false:=
  ⟨fun q hq=>by rw[hown0.cellAt q hq];exact qEX u q hq,fun q=>hown0.frozenAt q⟩
 have HF0:=hid (And.intro hb0 (And.intro hlt0 hF0));clear hown0 hgrow0 hb0 hlt0 hF0;go_wp2;go_loopw [12] (fun t wr=>∃j:Nat,j<=u/\t=.int .i64 j/\Hid (Bl w wr/\w.heap.size < wr.heap.size/\(∀q,q < u*2->∃z,wr.cell? ⟨w.heap.size,q,none⟩=some (.int .i64 z))/\(∀q,wr.frozen? ⟨w.heap.size,q,none⟩=false)/\∀i,i < j->wr.cell? ⟨w.heap.size,i*2,none⟩=some (.int .i64 0)/\wr.cell? ⟨w.heap.size,i*2+1,none⟩=some (.int .i64 1))) (fun t _=>u - (intOf t).toNat)
 case atStart=>exact⟨0,nZ _,rfl,hid ⟨HF0.out.1,HF0.out.2.1,fun q hq=>⟨0,HF0.out.2.2.1 q hq⟩,HF0.out.2.2.2,fun i hi=>by omega⟩⟩
 case round=>
  clear HF0;obtain⟨j,hj,rfl,hH⟩:=hrel;obtain⟨hnx,hlt,hany,hfr,hdone⟩:=hH.out;by_cases hju:j < u
  ·have i1:(j:Int) < (u:Int):=by omega
   have HX:=hid hH.out;clear hH hnx hany hfr hdone;go_wp2_with fail
   refine(xg 0 _).mono ?_;rintro e w2 ⟨rfl,hb⟩;obtain⟨z0,d0⟩:=HX.out.2.2.1 (j*2) (by omega);obtain⟨z1,d1⟩:=HX.out.2.2.1 (j*2+1) (by omega);have c0:=(hb.cell (p:=⟨w.heap.size,j*2,none⟩) hlt).trans d0;have c1:=(hb.cell (p:=⟨w.heap.size,j*2+1,none⟩) hlt).trans d1;have f0:=(hb.frozen (p:=⟨w.heap.size,j*2,none⟩) hlt).trans (HX.out.2.2.2.1 (j*2));have f1:=(hb.frozen (p:=⟨w.heap.size,j*2+1,none⟩) hlt).trans (HX.out.2.2.2.1 (j*2+1));have HB:=hid hb;have hs2:=hb.size;clear hb d0 d1;go_wp2;go_roundw
   case rel=>
    have ne:∀(X:World) (a b:Nat) (v:Value),a≠b->(X.setCell ⟨w.heap.size,b,none⟩ v).cell? ⟨w.heap.size,a,none⟩=X.cell? ⟨w.heap.size,a,none⟩:=fun X a b v hab=>bC _ _ _ _ (by intro e2;simp only[Addr.mk.injEq]at e2;omega);refine⟨j+1,by omega,by go_num,hid ⟨((bt HX.out.1 HB.out).setCell (nR _) _).setCell (nR _) _,by simp[World.setCell];omega,fun q hq=>?_,fun q=>by rw[fS,fS];exact(HB.out.frozen (p:=⟨w.heap.size,q,none⟩) hlt).trans (HX.out.2.2.2.1 q),fun i hi=>?_⟩⟩
    ·obtain⟨z,hz⟩:=HX.out.2.2.1 q hq;have hz':=(HB.out.cell (p:=⟨w.heap.size,q,none⟩) hlt).trans hz;by_cases e1:q=j*2+1
     ·subst e1;exact⟨_,bF _ _ _ ((ne _ _ _ _ (by omega)).trans c1)⟩
     ·by_cases e2:q=j*2
      ·subst e2;exact⟨_,(ne _ _ _ _ (by omega)).trans (bF _ _ _ c0)⟩
      ·exact⟨z,(ne _ _ _ _ e1).trans ((ne _ _ _ _ e2).trans hz')⟩
    ·by_cases e:i=j
     ·subst e;exact⟨(ne _ _ _ _ (by omega)).trans (bF _ _ _ c0),bF _ _ _ ((ne _ _ _ _ (by omega)).trans c1)⟩
     ·obtain⟨h1,h2⟩:=HX.out.2.2.2.2 i (by omega);exact⟨(ne _ _ _ _ (by omega)).trans ((ne _ _ _ _ (by omega)).trans ((HB.out.cell (p:=⟨w.heap.size,i*2,none⟩) hlt).trans h1)),(ne _ _ _ _ (by omega)).trans ((ne _ _ _ _ (by omega)).trans ((HB.out.cell (p:=⟨w.heap.size,i*2+1,none⟩) hlt).trans h2))⟩
   case measure=>simp[intOf];omega
  ·obtain rfl:j=u:=by omega
   have i1:¬((j:Int) < (j:Int)):=by omega
   have hsx:=HS.out.below hnx;have c0:wr.cell? ⟨k,0,none⟩=some (.int .i64 m):=hsx.lay.rows;have HFR:Hid (FrAt wr w.heap.size j (yr C B n 0)):=hid ⟨fun i hi=>(hdone i hi).1,fun i hi=>(hdone i hi).2,fun q _=>hfr q⟩;have HNX:=hid hnx;clear hH hnx hany hfr hdone hsx;go_wp2;go_loopw [24] (fun t wr=>∃i:Nat,i<=m/\t=.int .i64 i/\w.heap.size < wr.heap.size/\Hid (Bl w wr/\FrAt wr w.heap.size j (yr C B n i))) (fun t _=>m - (intOf t).toNat)
   case atStart=>exact⟨0,nZ _,rfl,hlt,hid ⟨HNX.out,HFR.out⟩⟩
   case round=>
    clear HNX HFR;obtain⟨i,him,rfl,hlt2,hH⟩:=hrel;obtain⟨hnx,hfr⟩:=hH.out;by_cases hi2:i < m
    ·have i2:(i:Int) < (m:Int):=by omega
     have i8:(i:Int) < 8:=by omega
     have i20:(n:Int) < 20:=by omega
     have hsx:=HS.out.below hnx;have b1:wr.cell? ⟨k,322+i,none⟩=some (.int .i64 (B i:Nat)):=hsx.lay.bas i hi2;have b2:wr.cell? ⟨k,1,none⟩=some (.int .i64 n):=hsx.lay.cols;have b3:wr.cell? ⟨k,2+i*40+n*2,none⟩=some (.int .i64 (C i n).num):=hsx.lay.num i n (by omega) (nR _);have b4:wr.cell? ⟨k,2+i*40+n*2+1,none⟩=some (.int .i64 (C i n).den):=hsx.lay.den i n (by omega) (nR _);have HFR:=hid hfr;have HNX:=hid hnx;clear hH hnx hfr hsx;by_cases hB:B i < j
     ·have i3:(B i:Int) < (j:Int):=by omega
      have c1:=HFR.out.num (B i) hB;have c2:=HFR.out.den (B i) hB;have f1:=HFR.out.free (B i*2) (by omega);have f2:=HFR.out.free (B i*2+1) (by omega);go_wp2_with fail
      go_region
      go_wp2;go_roundw
      case rel=>exact⟨i+1,by omega,by go_num,by simpa[World.setCell]using hlt2,hid ⟨((HNX.out.setCell (nR _) _).setCell (nR _) _).drew,FrAt.drew (HFR.out.set hB (C i n))⟩⟩
      case measure=>simp[intOf];omega
     ·have i3:¬((B i:Int) < (j:Int)):=by omega
      go_wp2;go_roundw
      case rel=>exact⟨i+1,by omega,by go_num,hlt2,hid ⟨HNX.out,⟨fun q hq=>by rw[show yr C B n (i+1) q=yr C B n i q from if_neg (by omega)];exact HFR.out.num q hq,fun q hq=>by rw[show yr C B n (i+1) q=yr C B n i q from if_neg (by omega)];exact HFR.out.den q hq,HFR.out.free⟩⟩⟩
      case measure=>simp[intOf];omega
    ·obtain rfl:i=m:=by omega
     have i2:¬((i:Int) < (i:Int)):=by omega
     have HFR:=hid hfr;have HNX:=hid hnx;clear hH hnx hfr;go_wp2;go_ret;exact⟨rfl,HFR.out,hlt2,HNX.out⟩
def inc(L:List (List Nat))(r e:Nat):Rat:=if e∈L.getD r [] then 1 else 0
theorem kO(l:List Nat)(x:Nat):(l.contains x=true)=(x∈l):=by simp
theorem U2(u:Nat)(L:List (List Nat))(i j:Nat)(hi:i < L.length)(hj:j<=u+L.length):xE u L false i j=Cov.packA L.length u (inc L) j i:=by
 unfold xE Cov.packA inc;simp only[Bool.false_eq_true,if_false,kO,false_and];rw[if_pos hi];by_cases h1:j=u+L.length
 ·rw[if_pos h1,if_neg (by omega),if_neg (by omega)]
 ·rw[if_neg h1];by_cases h2:j < u
  ·rw[if_pos h2,if_pos h2]
  ·rw[if_neg h2,if_neg h2,if_pos (show j < u+L.length by omega)];by_cases h3:j - u=i
   ·rw[if_pos h3,if_pos (by omega)]
   ·rw[if_neg h3,if_neg (by omega)]
theorem VP(u:Nat)(L:List (List Nat))(i j:Nat)(hi:i < L.length)(hj:j<=u+L.length+L.length):xE u L true i j=Cov.coverA L.length u (inc L) j i:=by
 unfold xE Cov.coverA inc;simp only[if_true,kO,true_and];rw[if_pos hi];by_cases h1:j=u+L.length+L.length
 ·rw[if_pos h1,if_neg (by omega),if_neg (by omega),if_neg (by omega)]
 ·rw[if_neg h1];by_cases h2:j < u
  ·rw[if_pos h2,if_pos h2]
  ·rw[if_neg h2,if_neg h2];by_cases h4:j < u+L.length
   ·rw[if_pos h4,if_neg (by omega)];by_cases h3:j - u=i
    ·rw[if_pos h3,if_pos (by omega)]
    ·rw[if_neg h3,if_neg (by omega)]
   ·rw[if_neg h4,if_pos (show j < u+L.length+L.length by omega)];by_cases h3:j - u - L.length=i
    ·rw[if_pos h3,if_pos (by omega)]
    ·rw[if_neg h3,if_neg (by omega),if_neg (by omega)]
theorem X7{m n:Nat}:∀{l:List (Nat->Rat)} {c:Nat->Rat} {bar b1 bar':Nat->Bool} {s s1 s':Cov.Sx},Cov.Aims m n l bar s b1 s1->Cov.Aim m n c b1 s1 bar' s'->Cov.Aims m n (l++[c]) bar s bar' s'
 |[],_,_,_,_,_,_,_,h,h2=>by
  obtain⟨rfl,rfl⟩:=h;exact⟨_,_,h2,rfl,rfl⟩
 |_::_,_,_,_,_,_,_,_,h,h2=>by
  obtain⟨b,s,h0,h1⟩:=h;exact⟨b,s,h0,X7 h1 h2⟩
theorem qBk{cost:Nat->Rat}{s s':Cov.Sx}(h:Cov.Good m n A bar s)(ha:Cov.Aim m n cost bar s bar' s'):Cov.Good m n A bar' s'/\Cov.Good m n A bar s':=by
 obtain⟨k,h1,_,h3,h4⟩:=ha;have hg:Cov.Good m n A bar s':=by rw[h3];exact h.it k
 refine⟨⟨hg.inv,hg.feas,fun i hi=>?_⟩,hg⟩;rw[h4];unfold Cov.narrowed;rw[hg.open' i hi,hg.inv.red_basic cost hi];simp
theorem VQ(a b:Nat)(v:Int):rc (zm a b v)=Cov.cf a b ((v:Int):Rat):=by
 funext j;unfold rc zm Cov.cf;split <;> rfl
def jQ(l:List (Nat×Nat×Int)):List (Nat->Rat):=l.map fun t=>rc (zm t.1 t.2.1 t.2.2)
theorem qAf(u m n:Nat):jQ (qi u m n false u)=Cov.cf 0 u (-1)::Cov.units u:=by
 unfold jQ qi xm Cov.units;simp only[Bool.false_eq_true,if_false,List.map_cons,List.map_map,List.cons_append,List.nil_append,VQ];congr 1
theorem Kh(u m:Nat):jQ (qi u m (u+m+m) true u)=Cov.cf (u+m) (u+m+m) 1::Cov.cf 0 u 1::Cov.units u:=by
 unfold jQ qi xm Cov.units;simp only[if_true,List.map_cons,List.map_map,List.cons_append,List.nil_append,VQ];rw[show u+m+m - m=u+m by omega];congr 1
theorem X8(a b:Nat)(v:Int)(hv:v.natAbs<=1)(j:Nat):(zm a b v j).natAbs<=1:=by
 unfold zm;split
 ·exact hv
 ·simp
theorem qAg(u m n:Nat)(below:Bool)(k:Nat):∀t∈qi u m n below k,t.2.2.natAbs<=1:=by
 intro t ht;unfold qi xm at ht;rcases List.mem_append.1 ht with h|h
 ·cases below
  ·simp at h;subst h;simp
  ·simp at h;rcases h with rfl|rfl <;> simp
 ·obtain⟨j,-,rfl⟩:=List.mem_map.1 h;simp
theorem Qp{C:Nat->Nat->Rat}{B:Nat->Nat}{n:Nat}:∀{m:Nat},(∀i,i < m->∀k,k < m->B i=B k->i=k)->∀j,yr C B n m j=Cov.val m (fun i=>C i n) B j
 |0,_,_=>rfl
 |m+1,hB,j=>by
  have ih:=Qp (C:=C) (B:=B) (n:=n) (m:=m) (fun i hi k hk e=>hB i (by omega) k (by omega) e) j;show(if B m=j then C m n else yr C B n m j)=Cov.sm m (fun i=>if B i=j then C i n else 0)+(if B m=j then C m n else 0);rw[ih];unfold Cov.val;by_cases e:B m=j
  ·have hz:Cov.sm m (fun i=>if B i=j then C i n else 0)=0:=Cov.sm_zero (fun i hi=>if_neg (fun e2=>by
    have:=hB i (by omega) m (by omega) (e2.trans e.symm);omega))
   simp only[hz,if_pos e];grind
  ·simp only[if_neg e];grind
theorem X9(L:List (List Nat))(r e:Nat):Cov.Whole 1 (inc L r e):=by
 unfold inc;split
 ·exact⟨1,rfl,by decide⟩
 ·exact⟨0,rfl,by decide⟩
theorem ZV(m u:Nat)(L:List (List Nat))(j r:Nat):Cov.Whole 1 (Cov.packA m u (inc L) j r):=by
 unfold Cov.packA;repeat' split
 ·exact X9 L r j
 ·exact⟨1,rfl,by decide⟩
 ·exact⟨0,rfl,by decide⟩
 ·exact⟨1,rfl,by decide⟩
theorem uv(m u:Nat)(L:List (List Nat))(j r:Nat):Cov.Whole 1 (Cov.coverA m u (inc L) j r):=by
 unfold Cov.coverA;repeat' split
 ·exact X9 L r j
 ·exact⟨-1,rfl,by decide⟩
 ·exact⟨0,rfl,by decide⟩
 ·exact⟨1,rfl,by decide⟩
 ·exact⟨0,rfl,by decide⟩
 ·exact⟨1,rfl,by decide⟩
theorem K8(w:World)(u m n:Nat)(a:Option Addr)(cap:Nat)(below:Bool)(hu:u<=7)(hb:below=true->m<=6)(hn:n=if below then u+m+m else u+m):
 Cl 117 #[.agg #[.int .i64 u,.slice a m cap,.bool below]] w fun e w'=>∃v,e=.returned v/\w'.ownsRow w.heap.size 160 20 v (qi u m n below u).length (zk (qi u m n below u))/\Bl w w':=by
 rw[uA];cases below
 ·have:=J9 w u m a cap hu;rw[hn];exact this
 ·have:=qAZ w u m a cap hu (hb rfl);rw[hn];exact this
theorem UE:∀(l:List (Nat×Nat×Int)) (i j:Nat),i < l.length->j < 20->(zk l)[i*20+j]?=(qJ (l.getD i (0,0,0)).1 (l.getD i (0,0,0)).2.1 (l.getD i (0,0,0)).2.2)[j]?
 |[],i,_,h,_=>by simp at h
 |t::l,0,j,_,hj=>by
  show(qJ t.1 t.2.1 t.2.2++zk l)[0*20+j]?=(qJ t.1 t.2.1 t.2.2)[j]?;rw[aL (by rw[qj];omega),show 0*20+j=j by omega]
 |t::l,i+1,j,h,hj=>by
  show(qJ t.1 t.2.1 t.2.2++zk l)[(i+1)*20+j]?=_;rw[bN (by rw[qj];omega),qj,show(i+1)*20+j - 20=i*20+j by omega];exact UE l i j (by simpa using h) hj
theorem qDO{l:List (Nat×Nat×Int)}(h:w.ownsRow B 160 20 (.slice (some ⟨g,0,none⟩) l.length cap) l.length (zk l))(hi:i < l.length):
 w.rangeAt g (i*20) (qJ (l.getD i (0,0,0)).1 (l.getD i (0,0,0)).2.1 (l.getD i (0,0,0)).2.2):=by
 rcases h.2 with ⟨h1,_⟩|⟨g',cap',cur,hv,-,hc,-,-,-,ht⟩
 ·cases h1
 ·simp only[Value.slice.injEq,Option.some.injEq,Addr.mk.injEq]at hv;obtain⟨⟨rfl,-⟩,-,-⟩:=hv;intro j v hj
  have hj20:j < 20:=by
   rcases Nat.lt_or_ge j 20 with h1|h1
   ·exact h1
   ·rw[gN (by rw[qj];exact h1)]at hj;cases hj
  rw[cell_of_row _ _ _ _ _ _ hc,<-Array.getElem?_toList];have:=UE l i j hi hj20;rw[<-ht,List.getElem?_take_of_lt (by omega)]at this;rw[this];exact hj
structure LS(w wr:World)(k g cap u m n:Nat)(A:Nat->Nat->Rat)(l:List (Nat×Nat×Int))(F:Nat->Value)(s0:Cov.Sx)(i:Nat)(bar:Nat->Bool)(s:Cov.Sx)(C:Nat->Nat->Rat):Prop where
 aims:Cov.Aims m n (jQ (l.take i)) (fun _=>false) s0 bar s
 good:Cov.Good m n A bar s
 sx:SxAt wr k m n C s.B bar
 rows:∀a,a < m->∀j,j<=n->C a j=s.T a j
 last:∀j,j<=n->Sm 41000 (C m j)
 bel:Bl w wr
 own:wr.ownsRow (k+1) 160 20 (.slice (some ⟨g,0,none⟩) l.length cap) l.length (zk l)
 arg:ArrAt wr w.heap.size 3 F
theorem qBE(l:List (Nat×Nat×Int))(i:Nat)(h:i < l.length):jQ (l.take (i+1))=jQ (l.take i)++[rc (zm (l.getD i (0,0,0)).1 (l.getD i (0,0,0)).2.1 (l.getD i (0,0,0)).2.2)]:=by
 unfold jQ;rw[tA,gE h,gD,gE h];simp only[Option.toList_some,List.map_append,List.map_cons,List.map_nil,Option.getD_some]
theorem qEI{s:Nat}{e:TypeId}{xs:List Value}(h:w.ownsRow B e s (.slice (some ⟨g,0,none⟩) n cap) n xs):B<=g/\g < w.heap.size:=h.lt g rfl
theorem LS.step{wr wx w':World}{k:Nat}{l:List (Nat×Nat×Int)}{F:Nat->Value}{s0:Cov.Sx}{s s':Cov.Sx}
 (h:LS w wr k g cap u m n A l F s0 i bar s C) (hi:i < l.length) (hm:m<=7) (hW:∀j,j<=n->∀r,r < m->Cov.Whole 1 (A j r)) (habs:∀t∈l,t.2.2.natAbs<=1) (hk:w.heap.size < k) (hx:Bl wr wx) (hK:Kb k wx w')
 (ha:Cov.Aim m n (rc (zm (l.getD i (0,0,0)).1 (l.getD i (0,0,0)).2.1 (l.getD i (0,0,0)).2.2)) bar s bar' s')
 (hs:SxAt w' k m n (full m (zm (l.getD i (0,0,0)).1 (l.getD i (0,0,0)).2.1 (l.getD i (0,0,0)).2.2) s') s'.B bar'):
 LS w w' k g cap u m n A l F s0 (i+1) bar' s' (full m (zm (l.getD i (0,0,0)).1 (l.getD i (0,0,0)).2.1 (l.getD i (0,0,0)).2.2) s'):=by
 have hmem:l.getD i (0,0,0)∈l:=by
  rw[gD,gE hi];exact gM _
 have hg:=qBk h.good ha;have hwp:=vf hg.1.inv hW hm (zm (l.getD i (0,0,0)).1 (l.getD i (0,0,0)).2.1 (l.getD i (0,0,0)).2.2) (X8 _ _ _ (habs _ hmem));have hown:=qB h.own hx;have hgt:=qEI hown;have hargx:=h.arg.below (by omega) hx;refine⟨?_,hg.1,hs,fun a ha' j _=>?_,fun j hj=>?_,?_,?_,?_⟩
 ·rw[qBE l i hi];exact X7 h.aims ha
 ·unfold full;rw[if_neg (by omega)]
 ·unfold full;rw[if_pos rfl];exact hwp.2 j hj m (nR _)
 ·exact Below.trans (bt h.bel hx) (hK.below (bt h.bel hx).size (by omega))
 ·exact qC hown (fun b hb=>by
   simp only[Value.ownBlock,Option.some.injEq]at hb;subst hb;exact hK.block g hgt.2 (by omega))
 ·exact hargx.move (hK.block _ (hargx.lt (by omega)) (by omega))
end Go.Proofs.YtjbpgdpciinlcaaGreat
