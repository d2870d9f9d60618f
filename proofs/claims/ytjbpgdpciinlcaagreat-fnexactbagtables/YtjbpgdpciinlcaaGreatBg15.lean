import Derived.Laws.Bits64b
import Derived.Laws.CopyOwn
import Derived.Test.YtjbpgdpciinlcaaGreatBg13
import Derived.Test.YtjbpgdpciinlcaaGreatBg14
set_option maxHeartbeats 40000000
set_option maxRecDepth 1000000
namespace Go.Proofs.YtjbpgdpciinlcaaGreat
open Go.RowKit
variable {x:Int}{ls rows:List (List Int)}{q va vars vb vs:List Int}{us xs:List Value}{B i j m n off p s:Nat}{e:TypeId}{v y:Value}{W:World}
theorem qBK(n:Nat)(hn:n<=100000):bits .and .u64 (n:Int) 4294967295=(n:Int):=by
 have h:=bits_and_u64_nat n 4294967295 (by omega) (by omega);rw[show((4294967295:Nat):Int)=4294967295 by rfl]at h;rw[h]
 have:n&&& 4294967295=n:=by
  rw[show(4294967295:Nat)=2 ^ 32 - 1 by rfl,Nat.and_two_pow_sub_one_eq_mod];exact Nat.mod_eq_of_lt (by omega)
 rw[this]
theorem qBL(w:World)(n:Nat)(hn:n<=100000):
 Cl 134 #[.int .u64 1,.int .u64 n] w fun e w'=>e=.returned (.tuple #[.int .u64 0,.int .u64 n])/\w'=w:=by
 have b1:bits .and .u64 1 4294967295=1:=by decide
 have b0:bits .and .u64 0 4294967295=0:=by decide
 have b2:=qBK n hn;have d1:(n:Int) / 4294967296=0:=by omega
 have w1:IntKind.u64.wrap (n:Int)=n:=by simp[IntKind.wrap,IntKind.bits,IntKind.signed];omega
 have w0:IntKind.u64.wrap 0=0:=by decide
 go_enter Tryz.func134,Tryz.ntmps134
 go_wp2;go_ret2;exact⟨rfl,rfl⟩
theorem mul_one(w:World)(n:Nat)(hn:n<=100000):
 Cl 111 #[.int .u64 1,.int .u64 n] w fun e w'=>e=.returned (.tuple #[.int .u64 0,.int .u64 n])/\w'=w:=by
 have KM:=hid (qBL w n hn);go_enter Tryz.func111,Tryz.ntmps111
 go_wp2_with fail
 refine KM.out.mono ?_;rintro e w1 ⟨rfl,hw⟩;subst w1;go_wp2_with fail
 go_ret2;exact⟨rfl,rfl⟩
def fil(n m:Nat):List Value:=List.replicate m (.int .i64 1)++List.replicate (n - m) (.int .i64 0)
theorem qDX(h:m<=n):(fil n m).length=n:=by simp[fil];omega
theorem qAK{c:Nat}:splice (fil n m) m (List.replicate c (.int .i64 1))=fil n (m+c):=by
 unfold splice fil;rw[List.take_left' (by simp),List.length_replicate,List.drop_append,List.length_replicate,show m+c - m=c by omega,List.drop_replicate,show m - (m+c)=0 by omega,List.replicate_zero,List.nil_append,List.drop_replicate,<-List.append_assoc,List.replicate_append_replicate,show n - m - c=n - (m+c)by omega]
theorem qDY(h:j < m)(v:Value)(hv:(List.replicate m (Value.int .i64 1))[j]?=some v):v=.int .i64 1:=by
 rw[List.getElem?_replicate]at hv;rw[if_pos h]at hv;exact(Option.some.inj hv).symm
theorem qBM(hn:0 < n):(fil n 0).toArray.setIfInBounds 0 (.int .i64 1)=(fil n 1).toArray:=by
 obtain⟨k,rfl⟩:∃k,n=k+1:=⟨n - 1,by omega⟩;simp[fil,List.replicate_succ]
structure Fil(w W:World)(n m:Nat):Prop where
 bel:Bl w W
 blk:W.heap[w.heap.size]?=some (.cells (fil n m).toArray 3 (0,0))
theorem Ub(w:World)(b:Nat)(n:Nat)(hn:n<=100000)(hx:w.cell? ⟨b,0,none⟩=some (.int .i64 1)):
 Cl 89 #[.slice (some ⟨b,0,none⟩) 1 1,.int .i64 n] w fun e w'=>∃v,e=.returned v/\w'.ownsRow w.heap.size 3 1 v n (List.replicate n (.int .i64 1))/\Bl w w':=by
 obtain⟨i0,hi,hz0,hz1,hz2⟩:=info_parts Tryz.infoInt;have KM:=hid (mul_one w n hn);have g1:¬((n:Int) < 0):=by omega
 have w1:IntKind.u64.wrap (n:Int)=n:=by simp[IntKind.wrap,IntKind.bits,IntKind.signed];omega
 have w2:IntKind.i64.wrap (n:Int)=n:=by simp[IntKind.wrap,IntKind.bits,IntKind.signed];omega
 have g2:¬((9223372036854775807:Int) < (n:Int)):=by omega
 have HX:=hid hx;have hbl:b < w.heap.size:=bL w _ hx;clear hx;go_enter Tryz.func89,Tryz.ntmps89
 go_wp2_with fail
 refine KM.out.mono ?_;rintro e w' ⟨rfl,hw'⟩;subst w';go_wp2_with (at_make;refine wpList_make_full _ rfl _ _ 24 rfl w.heap.size 3 i0 (.int .i64 0) 1 Tryz.underlying24 hi hz0 hz1 _ _ _ _ n rfl rfl rfl rfl ?b2 ?b3 (nR _) ?_)
 case b2=>rw[hz2];omega
 case b3=>unfold maxLen;omega
 intro w0 hown0 hgrow0
 have HF0:Hid (Fil w w0 n 0):=hid ⟨(bI _ _).grown hgrow0 (nR _) (fun j hj=>by cases hj),by
  rcases hown0.2 with ⟨e,-⟩|⟨g',cap',cur,e,-,hc,-,-,hs,ht⟩
  ·cases e
  ·simp only[Value.slice.injEq,Option.some.injEq,Addr.mk.injEq,true_and,and_true]at e;obtain⟨rfl,rfl⟩:=e;rw[hc]
   have:cur.toList=fil n 0:=by
    rw[<-List.take_of_length_le (l:=cur.toList) (i:=n*1) (by simp;omega),ht];rw[toList_madeCells_one];simp[fil]
   rw[<-this]⟩
 have hsz:(Tryz.prog.info? 3).map (·.size)=some 1:=by rw[hi];simp[hz1]
 clear hown0 hgrow0 KM;have HFs:Hid (∀W m c,m+c<=n->Fil w W n m->W.heap[w.heap.size]?=some (.cells (fil n m).toArray 3 (0,0))):=hid fun W m c _ h=>h.blk;by_cases hn0:n=0
 ·subst hn0;have hcp:∀ty,(Builtin.copy_ #[24,24] ty #[.slice (some ⟨w.heap.size,0,none⟩) 0 0,.slice (some ⟨b,0,none⟩) 1 1]).run Tryz.prog w0=.ok (goInt 0) w0:=fun ty=>run_copy_none w0 24 24 ty 3 _ _ 0 0 1 1 Tryz.underlying24 hsz rfl;have hg0:goInt 0=.int .i64 0:=rfl;go_wp2_with fail
  refine wp_loop_rounds 1 ?_;rw[rounds_succ];go_wp2_with fail
  go_ret;refine⟨_,rfl,⟨by simp,Or.inr ⟨w.heap.size,0,_,rfl,nR _,HF0.out.blk,nR _,nZ _,by simp[fil],by simp[fil]⟩⟩,HF0.out.bel⟩
 ·have hcp:∀ty,(Builtin.copy_ #[24,24] ty #[.slice (some ⟨w.heap.size,0,none⟩) n n,.slice (some ⟨b,0,none⟩) 1 1]).run Tryz.prog w0=.ok (goInt 1) (w0.setCell ⟨w.heap.size,0,none⟩ (.int .i64 1)):=fun ty=>
   run_copy_cells w0 24 24 ty 3 w.heap.size 0 n n ⟨b,0,none⟩ 1 1 [.int .i64 1] Tryz.underlying24 hsz (by show 1=Nat.min 1 n;exact(Nat.min_eq_left (by omega)).symm) (fun j v hv=>by
    match j,hv with
    |0,hv=>
     simp at hv;subst hv;rw[show((⟨b,0,none⟩:Addr).add 0)=⟨b,0,none⟩by rfl];exact(HF0.out.bel.cell (p:=⟨b,0,none⟩) hbl).trans HX.out) (fun j hj=>by
    simp at hj;subst hj;rw[cell_of_row _ _ _ _ _ _ HF0.out.blk];simp[fil];omega) (fun j _=>by unfold World.frozen?;rw[HF0.out.blk];simp) (fun v hv=>by simp at hv;subst hv;rfl)
  have hg1:goInt 1=.int .i64 1:=rfl
  have HF1:Hid (Fil w (w0.setCell ⟨w.heap.size,0,none⟩ (.int .i64 1)) n 1):=hid ⟨HF0.out.bel.setCell (nR _) _,by
   rw[bG _ _ _ _ _ _ HF0.out.blk,<-qBM (by omega)]⟩
  clear HF0;generalize w0.setCell ⟨w.heap.size,0,none⟩ (.int .i64 1)=W1 at *;go_wp2_with fail
  clear hcp;go_loopw [8] (fun t wr=>∃m:Nat,1<=m/\m<=n/\t=.int .i64 m/\Hid (Fil w wr n m)) (fun t _=>n - (intOf t).toNat)
  case atStart=>exact⟨1,nR _,by omega,by go_num,HF1⟩
  case round=>
   clear HF1;obtain⟨m,hm1,hmn,rfl,HF⟩:=hrel;by_cases hlt:m < n
   ·have i1:(m:Int) < (n:Int):=by omega
    have q1:¬n=m:=by omega
    have q2:m<=n:=by omega
    have q3:(m:Int)<=(n:Int):=by omega
    obtain⟨c,hc⟩:∃c,c=Nat.min m (n - m):=⟨_,rfl⟩
    have hc1:1<=c/\m+c<=n:=by
     rw[hc];have h1:Nat.min m (n - m)<=n - m:=Nat.min_le_right _ _;have h2:1<=Nat.min m (n - m):=Nat.le_min.2 ⟨hm1,by omega⟩;omega
    have HCN:Hid (∀W:World,W.heap[w.heap.size]?=some (Obj.cells (fil n m).toArray 3 (0,0))->∀j v,(List.replicate c (Value.int .i64 1))[j]?=some v->W.cell? ((⟨w.heap.size,0,none⟩:Addr).add j)=some v):=hid fun W hW j v hv=>by
     have hj:j < c:=by
      rcases Nat.lt_or_ge j c with h|h
      ·exact h
      ·rw[gN (by simpa using h)]at hv;cases hv
     rw[qDY hj v hv,show((⟨w.heap.size,0,none⟩:Addr).add j)=⟨w.heap.size,j,none⟩by unfold Addr.add;split <;> simp_all,cell_of_row _ _ _ _ _ _ hW];have hcm:c<=m:=by rw[hc];exact Nat.min_le_left _ _
     show(fil n m).toArray[j]?=_;rw[List.getElem?_toArray];unfold fil;rw[aL (by rw[List.length_replicate];omega),List.getElem?_replicate,if_pos (by omega)]
    have hcp2:∀ty,(Builtin.copy_ #[24,24] ty #[.slice (some ⟨w.heap.size,m,none⟩) (n - m) (n - m),.slice (some ⟨w.heap.size,0,none⟩) m n]).run Tryz.prog wr.drew=.ok (goInt c) (wr.drew.setRow w.heap.size (fil n (m+c)).toArray):=fun ty=>by
     have h:=run_copy_row (P:=Tryz.prog) wr.drew 24 24 ty 3 w.heap.size m (n - m) (n - m) ⟨w.heap.size,0,none⟩ m n (fil n m).toArray 3 (List.replicate c (.int .i64 1)) Tryz.underlying24 hsz HF.out.blk (by rw[List.length_replicate];exact hc) (HCN.out wr.drew HF.out.blk) (by rw[List.size_toArray,qDX hmn,List.length_replicate];exact hc1.2) (fun v hv=>by rw[List.eq_of_mem_replicate hv];rfl);rw[List.length_replicate]at h;have e:=qAK (n:=n) (m:=m) (c:=c);unfold splice at e;rw[List.length_replicate]at e;rw[List.append_assoc,e]at h;exact h
    have hgc:goInt c=.int .i64 c:=rfl;have HN:Hid (Fil w (wr.drew.setRow w.heap.size (fil n (m+c)).toArray) n (m+c)):=hid ⟨below_setRow HF.out.bel.drew (nR _) _,setRow_heap wr.drew _ _ _ _ _ HF.out.blk⟩;clear HF HCN hc;go_upto_region 9 with fail
    go_region
    go_wp2_with fail
    go_roundw
    case rel=>exact⟨m+c,by omega,by omega,by go_num,HN⟩
    case measure=>simp[intOf];omega
   ·obtain rfl:m=n:=by omega
    have i1:¬((m:Int) < (m:Int)):=by omega
    go_wp2_with fail
    go_ret;refine⟨_,rfl,⟨by simp,Or.inr ⟨w.heap.size,m,_,rfl,nR _,HF.out.blk,nR _,by unfold maxLen;omega,by simp[fil],by simp[fil]⟩⟩,HF.out.bel⟩
theorem JM{a b:World}(h:Below a.drew.heap.size a.drew b):Bl a b:=⟨h.os,h.tape,h.output,h.size,h.block⟩
theorem zD{w:World}(h:w.ownsRow B e s v n xs):∃a cap,v=.slice a n cap:=by
 rcases h.2 with ⟨rfl,hn⟩|⟨g,cap,cur,rfl,_⟩
 ·exact⟨none,0,by rw[hn]⟩
 ·exact⟨_,cap,rfl⟩
theorem zd{e':TypeId}(h:W.ownsRow B e s v n xs)(ht:∃cur,W.heap[p]?=some (.cells cur e' (0,0)))(he:e≠e'):(W.setCell ⟨p,off,none⟩ y).ownsRow B e s v n xs:=
 qC h fun g hg=>bD _ _ _ _ (by rintro rfl;exact own_ne h ht he hg.symm)
theorem RQ.set(h:RQ W B v us ls)(ht:∃cur,W.heap[p]?=some (.cells cur 53 (0,0))):RQ (W.setCell ⟨p,off,none⟩ y) B v us ls:=
 ⟨zd h.own ht (by decide),h.len,fun i hi=>zd (h.each i hi) ht (by decide),h.ap⟩
theorem RQ.sl(h:RQ W B v us ls):∃a cap,v=.slice a ls.length cap:=zD h.own
structure TX(W:World)(p:Nat)(v0 v1 v2:Value):Prop where
 blk:W.heap[p]?=some (.cells #[v0,v1,v2] 53 (0,0))
section
variable {W W':World} {p:Nat} {v0 v1 v2:Value}
theorem TX.lt(h:TX W p v0 v1 v2):p < W.heap.size:=by
 rcases Nat.lt_or_ge p W.heap.size with h1|h1
 ·exact h1
 ·have:=h.blk;rw[Array.getElem?_eq_none h1]at this;cases this
theorem TX.below(h:TX W p v0 v1 v2)(hb:Bl W W'):TX W' p v0 v1 v2:=⟨(hb.block p h.lt).trans h.blk⟩
theorem TX.c0(h:TX W p v0 v1 v2):W.cell? ⟨p,0,none⟩=some v0:=by rw[cell_of_row _ _ _ _ _ _ h.blk];rfl
theorem TX.c1(h:TX W p v0 v1 v2):W.cell? ⟨p,1,none⟩=some v1:=by rw[cell_of_row _ _ _ _ _ _ h.blk];rfl
theorem TX.c2(h:TX W p v0 v1 v2):W.cell? ⟨p,2,none⟩=some v2:=by rw[cell_of_row _ _ _ _ _ _ h.blk];rfl
theorem TX.free(h:TX W p v0 v1 v2)(j:Nat):W.frozen? ⟨p,j,none⟩=false:=by unfold World.frozen?;rw[h.blk];simp
theorem TX.typ(h:TX W p v0 v1 v2):∃cur,W.heap[p]?=some (.cells cur 53 (0,0)):=⟨_,h.blk⟩
theorem TX.made(W:World)(v0 v1 v2:Value):TX (W.alloc (.cells #[v0,v1,v2] 53)) W.heap.size v0 v1 v2:=⟨heap_alloc_new _ _⟩
end
theorem uO(w:World)(vv vr:Value)(vars:List Int)(n:Nat)(hv:IS w vv vars)(hr:∃a c,vr=.slice a n c)(hlv:vars.length<=1000)(hn:n<=100000):
 Cl 62 #[vv,vr] w fun e w'=>∃v0 v2,e=.returned (.agg #[v0,vr,v2])/\w'.ownsRow w.heap.size 3 1 v0 vars.length (vars.map (Value.int .i64))/\w'.ownsRow w.heap.size 3 1 v2 n (List.replicate n (.int .i64 1))/\Ap' v0 v2/\Bl w w':=by
 obtain⟨W1,hW1⟩:∃W1,W1=w.alloc (.cells #[.slice none 0 0,.slice none 0 0,.slice none 0 0] 53):=⟨_,rfl⟩;have hB1:Bl w W1:=by rw[hW1];exact(bI _ _).alloc (nR _) _
 have HT1:Hid (TX W1 w.heap.size (.slice none 0 0) (.slice none 0 0) (.slice none 0 0)):=hid (by rw[hW1];exact TX.made _ _ _ _);have KC:=hid (kK W1 vv vars (hv.below hB1) (by omega));have HB1:=hid hB1;obtain⟨ar,cr,rfl⟩:=hr;obtain⟨av,cv,rfl,-⟩:=hv;clear hB1;go_enter Tryz.func62,Tryz.ntmps62
 go_upto_region 1 with fail
 rw[<-hW1];clear hW1;go_wp2_with fail
 refine KC.out.mono ?_;rintro e w2 ⟨v0,rfl,ho0,hb2⟩;have HT2:=hid (HT1.out.below hb2);have HB2:=hid (bt HB1.out hb2);have HO2:=hid (qF ho0 HB1.out.size);have hlt0:∀g,v0.ownBlock=some g->g < w2.heap.size:=fun g hg=>(ho0.lt g hg).2;obtain⟨a0,c0,rfl⟩:=zD ho0;have HL0:=hid hlt0;clear ho0 hb2 KC HT1 HB1 hlt0;have HAl:Hid (Bl w2 (w2.alloc (.cells #[.int .i64 1] 3))):=hid ((bI _ _).alloc (nR _) _);have KR:=hid (Ub (w2.alloc (.cells #[.int .i64 1] 3)) w2.heap.size n hn (by rw[cA _ _ _ _ rfl];rfl));have hs2:=HB2.out.size;go_wp2_with fail
 refine KR.out.mono ?_;rintro e w3 ⟨v2,rfl,ho2,hb3⟩;have hb23:=bt HAl.out hb3;have HT3:=hid (HT2.out.below hb23);have HB3:=hid (bt HB2.out hb23);have HO3:=hid (qB HO2.out hb23);have HV3:=hid (qF (B':=w.heap.size) ho2 (by simp;omega))
 have HAp:Hid (Ap' (.slice a0 vars.length c0) v2):=hid fun g h1 h2=>by
  have e1:=HL0.out g h1;have e2:=(ho2.lt g h2).1;simp at e2;omega
 obtain⟨a2,c2,rfl⟩:=zD ho2;clear ho2 hb3 hb23 KR HAl HT2 HB2 HO2 HL0;have d0:=HT3.out.c0;have d1:=HT3.out.c1;have d2:=HT3.out.c2;have f0:=HT3.out.free 0;have f1:=HT3.out.free 1;have f2:=HT3.out.free 2;have HTy:=hid HT3.out.typ;generalize hnv:vars.length=nv at *;have HNV:=hid hnv;clear hnv;go_wp2_with fail
 refine bodyPost_ret (v:=.agg #[.slice a0 nv c0,.slice ar n cr,.slice a2 n c2]) (by simp[results,Tryz.results62,go_sem,d0,d1,d2]) rfl ⟨_,_,rfl,?_,?_,HAp.out,?_⟩
 ·rw[HNV.out];exact zd (zd (zd HO3.out HTy.out (by decide)) (ql HTy.out) (by decide)) (ql (ql HTy.out)) (by decide)
 ·exact zd (zd (zd HV3.out HTy.out (by decide)) (ql HTy.out) (by decide)) (ql (ql HTy.out)) (by decide)
 ·exact((HB3.out.setCell (nR _) _).setCell (nR _) _).setCell (nR _) _
theorem kH(w:World)(v0 v1 v2 vv:Value)(vs:List Int)(rows:List (List Int))(ws vars:List Int)(h:IT w v0 v1 v2 vs rows ws)(hv:IS w vv vars)(hlv:vars.length<=1000)(hls:vs.length<=1000)(hn:rows.length<=100000)(hrow:∀r∈rows,r.length=vs.length):
 Cl 85 #[.agg #[v0,v1,v2],vv] w fun e w'=>∃v uo,e=.returned v/\RQ w' w.heap.size v uo (srt (ze rows (plc (fun i=>decide (vs.getD i 0∈vars)) vs.length)))/\Bl w w':=by
 obtain⟨W1,hW1⟩:∃W1,W1=w.alloc (.cells #[v0,v1,v2] 53):=⟨_,rfl⟩;have hB1:Bl w W1:=by rw[hW1];exact(bI _ _).alloc (nR _) _
 have HT1:Hid (TX W1 w.heap.size v0 v1 v2):=hid (by rw[hW1];exact TX.made _ _ _ _);have KP:Hid (∀W,Bl W1 W->Cl 58 #[v0,vv] W fun e w'=>∃v,e=.returned v/\w'.ownsRow W.heap.size 3 1 v (plc (fun i=>decide (vs.getD i 0∈vars)) vs.length).length ((plc (fun i=>decide (vs.getD i 0∈vars)) vs.length).map (Value.int .i64))/\Bl W w'):=hid fun W hW=>xR W v0 vv vs vars (h.vs.below (bt hB1 hW)) (hv.below (bt hB1 hW)) (by omega) (by omega);have hpl:=xd (fun i=>decide (vs.getD i 0∈vars)) vs.length
 have hpin:∀p∈plc (fun i=>decide (vs.getD i 0∈vars)) vs.length,0<=p/\p < (vs.length:Int):=fun p hp=>by
  unfold plc at hp;rw[List.mem_map]at hp;obtain⟨j,hj,e⟩:=hp;rw[List.mem_filter,List.mem_range]at hj;simp only[Int.ofNat_eq_natCast]at e;omega
 have KR:Hid (∀W u,Bl W1 W->IS W u (plc (fun i=>decide (vs.getD i 0∈vars)) vs.length)->Cl 101 #[v1,u] W fun e w'=>∃v uo,e=.returned v/\RQ w' W.heap.size v uo (srt (ze rows (plc (fun i=>decide (vs.getD i 0∈vars)) vs.length)))/\Bl W w'):=hid fun W u hW hu=>
  kq W v1 u rows _ (h.rows.below (bt hB1 hW)) hu (by omega) (by omega) (fun r hr p hp=>by rw[hrow r hr];exact hpin p hp)
 have HB1:=hid hB1;obtain⟨a0,c0,e0,-⟩:=h.vs;obtain⟨a1,c1,e1,-⟩:=h.rows;obtain⟨a2,c2,e2,-⟩:=h.ws;obtain⟨av,cv,e3,-⟩:=hv;subst e0 e1 e2 e3;clear hB1 hpin h hrow;generalize plc (fun i=>decide (vs.getD i 0∈vars)) vs.length=pl at *;generalize vs.length=l0 at *;generalize rows.length=l1 at *;generalize ws.length=l2 at *;generalize vars.length=l3 at *;have d0:=HT1.out.c0;have d1:=HT1.out.c1;go_enter Tryz.func85,Tryz.ntmps85
 go_upto_region 1 with fail
 rw[<-hW1];clear hW1
 go_region_law (first
  |(go_simp;go_at_call 58;(with_reducible refine(KP.out _ (bI _ _).drew).mono ?_);rintro e w2 ⟨u2,rfl,ho2,hb2'⟩;have hb2:=JM hb2';have HI2:=hid (qW ho2);have d1b:=(HT1.out.below hb2).c1;obtain⟨a9,c9,e9⟩:=zD ho2;subst e9;clear ho2 hb2')
  |(go_simp;go_at_call 101;(with_reducible refine(KR.out _ _ hb2 HI2.out).mono ?_);rintro e w3 ⟨u3,uo3,rfl,hQ3,hb3⟩))
 all_goals
  go_wp2_with fail
  go_ret
  exact⟨_,uo3,rfl,hQ3.base (bK HB1.out.size hb2.size),bt (bt HB1.out hb2) hb3⟩
theorem qAH:∀{a b:List Int},a.Pairwise (·< ·)->b.Pairwise (·< ·)->(∀x,x∈a↔x∈b)->a=b
 |[],[],_,_,_=>rfl
 |[],y::b,_,_,h=>by have:=(h y).2 (List.mem_cons_self ..);cases this
 |x::a,[],_,_,h=>by have:=(h x).1 (List.mem_cons_self ..);cases this
 |x::a,y::b,ha,hb,h=>by
  rw[List.pairwise_cons]at ha hb
  have hxy:x=y:=by
   rcases List.mem_cons.1 ((h x).1 (List.mem_cons_self ..))with e|e
   ·exact e
   ·rcases List.mem_cons.1 ((h y).2 (List.mem_cons_self ..))with e2|e2
    ·exact e2.symm
    ·have h1:=hb.1 x e;have h2:=ha.1 y e2;omega
  subst hxy;rw[qAH (a:=a) (b:=b) ha.2 hb.2 fun z=>?_];constructor
  ·intro hz;rcases List.mem_cons.1 ((h z).1 (mC _ hz))with e|e
   ·subst e;have:=ha.1 _ hz;omega
   ·exact e
  ·intro hz;rcases List.mem_cons.1 ((h z).2 (mC _ hz))with e|e
   ·subst e;have:=hb.1 _ hz;omega
   ·exact e
theorem UT:∀(vs r:List Int) (p:Nat),vs.Pairwise (·< ·)->p < vs.length->vlF vs r (vs.getD p 0)=r.getD p 0
 |[],_,p,_,h=>by simp at h
 |x::vs,r,0,_,_=>by simp[vlF]
 |x::vs,r,p+1,h,hp=>by
  rw[List.pairwise_cons]at h;simp only[List.length_cons]at hp;have hm:vs.getD p 0∈vs:=by rw[gD,gE (by omega)];exact gM _
  have hlt:=h.1 _ hm;show vlF (x::vs) r (vs.getD p 0)=_;rw[vlF,if_neg (by omega),UT vs (r.drop 1) p h.2 (by omega),vQ,Nat.add_comm]
theorem Qi(vs vars:List Int):(plc (fun i=>decide (vs.getD i 0∈vars)) vs.length).map (fun p=>vs.getD p.toNat 0)=vs.filter (fun x=>decide (x∈vars)):=by
 unfold plc;rw[List.map_map]
 have e:vs=(List.range vs.length).map (fun i=>vs.getD i 0):=by
  refine List.ext_getElem? fun i=>?_;by_cases h:i < vs.length
  ·rw[bJ,List.getElem?_range h,gE h,Option.map_some,gD,gE h];rfl
  ·rw[gN (by omega),gN (by simp;omega)]
 have h2:vs.filter (fun x=>decide (x∈vars))=((List.range vs.length).filter fun i=>decide (vs.getD i 0∈vars)).map fun i=>vs.getD i 0:=by
  conv=>lhs;rw[e]
  rw[List.filter_map];rfl
 rw[h2];rfl
theorem qCS{r:List Int}(h1:vs.Pairwise (·< ·))(h2:vars.Pairwise (·< ·))(hs:∀x∈vars,x∈vs):atP r (plc (fun i=>decide (vs.getD i 0∈vars)) vs.length)=qK vs vars r:=by
 have hv:vs.filter (fun x=>decide (x∈vars))=vars:=qAH (h1.filter _) h2 fun x=>by
  rw[List.mem_filter,dE];exact⟨fun h=>h.2,fun h=>⟨hs x h,h⟩⟩
 unfold qK atP;conv=>rhs;rw[<-hv,<-Qi]
 rw[List.map_map];refine List.map_congr_left fun p hp=>?_;unfold plc at hp;rw[List.mem_map]at hp;obtain⟨j,hj,e⟩:=hp;rw[List.mem_filter,List.mem_range]at hj;simp only[Int.ofNat_eq_natCast]at e;subst e;simp only[Function.comp_apply,Int.toNat_natCast];rw[UT vs r j h1 hj.1]
theorem qBI(h1:vs.Pairwise (·< ·))(h2:vars.Pairwise (·< ·))(hs:∀x∈vars,x∈vs):ze rows (plc (fun i=>decide (vs.getD i 0∈vars)) vs.length)=rows.map (qK vs vars):=
 List.map_congr_left fun _ _=>qCS h1 h2 hs
def ko(a b:List Int):Bool:=a.all fun x=>decide (x∈b)
theorem UU(a b:List Int):decide ((plc (fun i=>decide (a.getD i 0∈b)) a.length).length < a.length)=!ko a b:=by
 have key:∀n,(∀i,i < n->decide (a.getD i 0∈b)=true)/\(plc (fun i=>decide (a.getD i 0∈b)) n).length=n∨(∃i,i < n/\decide (a.getD i 0∈b)=false)/\(plc (fun i=>decide (a.getD i 0∈b)) n).length < n:=by
  intro n;induction n with
  |zero=>exact Or.inl ⟨fun i hi=>by omega,rfl⟩
  |succ n ih=>
   cases hd:decide (a.getD n 0∈b)
   ·have:=xd (fun i=>decide (a.getD i 0∈b)) n;rw[uM _ _ hd];exact Or.inr ⟨⟨n,by omega,hd⟩,by omega⟩
   ·rw[jH _ _ hd,lA,lS];rcases ih with ⟨h1,h2⟩|⟨⟨i,hi,h1⟩,h2⟩
    ·refine Or.inl ⟨fun i hi=>?_,by omega⟩;by_cases e:i=n
     ·rw[e];exact hd
     ·exact h1 i (by omega)
    ·exact Or.inr ⟨⟨i,by omega,h1⟩,by omega⟩
 unfold ko;rcases key a.length with ⟨h1,h2⟩|⟨⟨i,hi,h1⟩,h2⟩
 ·rw[decide_eq_false (by omega)]
  have:(a.all fun x=>decide (x∈b))=true:=by
   rw[aT];intro x hx;obtain⟨i,hi,e⟩:=gO hx;have:=h1 i hi;rw[gD,gE hi,Option.getD_some,e]at this;exact this
  rw[this];rfl
 ·rw[decide_eq_true h2]
  have:(a.all fun x=>decide (x∈b))=false:=by
   rw[List.all_eq_false];refine⟨a[i],gM _,?_⟩;rw[gD,gE hi,Option.getD_some]at h1;rw[h1];decide
  rw[this];rfl
theorem QO:∀(n:Nat) {a b:List Int},qD a b<=0->qD (a.take n) (b.take n)<=0
 |0,a,b,_=>by simp[qD]
 |n+1,[],[],_=>by simp[qD]
 |n+1,[],y::b,_=>by simp[qD]
 |n+1,x::a,[],h=>by simp[qD]at h
 |n+1,x::a,y::b,h=>by
  simp only[List.take_succ_cons];unfold qD at h ⊢;by_cases h1:x < y
  ·rw[if_pos h1];omega
  ·rw[if_neg h1]at h ⊢;by_cases h2:y < x
   ·rw[if_pos h2]at h;omega
   ·rw[if_neg h2]at h ⊢;exact QO n h
theorem qDZ{a b c:List Int}(h1:qD a b<=0)(h2:qD b c < 0):qD a c < 0:=by
 rcases Int.lt_or_eq_of_le h1 with h|h
 ·exact xI h h2
 ·rw[xh h];exact h2
theorem qAP(h:SL rows)(hij:i<=j)(hj:j < rows.length):qD (rows.getD i []) (rows.getD j [])<=0:=by
 rcases Nat.lt_or_ge i j with h1|h1
 ·have:=List.pairwise_iff_getElem.1 h i j (by omega) hj h1;rw[gD,gE (by omega),gD,gE hj];exact Int.le_of_lt this
 ·rw[show i=j by omega,zr];exact Int.le_refl _
structure Sk(rows:List (List Int))(q:List Int)(k:Nat):Prop where
 le:k<=rows.length
 lo:∀j,j < k->qD ((rows.getD j []).take q.length) q < 0
 hi:∀j,k<=j->j < rows.length->¬qD ((rows.getD j []).take q.length) q < 0
def yQ(rows:List (List Int))(q:List Int):Bool:=rows.any fun r=>decide (r.take q.length=q)
theorem J4(h:SL rows)(hij:i<=j)(hj:j < rows.length)(hc:qD ((rows.getD j []).take q.length) q < 0):qD ((rows.getD i []).take q.length) q < 0:=
 qDZ (QO _ (qAP h hij hj)) hc
theorem Sk.beg{k:Nat}(hS:SL rows)(h:Sk rows q k):yQ rows q=(decide (k < rows.length)&&decide (qD ((rows.getD k []).take q.length) q=0)):=by
 unfold yQ;by_cases hk:k < rows.length/\qD ((rows.getD k []).take q.length) q=0
 ·rw[decide_eq_true hk.1,decide_eq_true hk.2];refine List.any_eq_true.2 ⟨rows[k]'hk.1,gM _,decide_eq_true ?_⟩;have:=xh hk.2;rw[gD,gE hk.1]at this;exact this
 ·have e:(decide (k < rows.length)&&decide (qD ((rows.getD k []).take q.length) q=0))=false:=by
   rcases Classical.em (k < rows.length)with h1|h1
   ·rw[decide_eq_false (p:=qD _ q=0) (fun h2=>hk ⟨h1,h2⟩)];simp
   ·rw[decide_eq_false h1];rfl
  rw[e,List.any_eq_false];intro r hr hc;obtain⟨j,hj,ej⟩:=gO hr;have hc:=of_decide_eq_true hc;have e2:(rows.getD j []).take q.length=q:=by rw[gD,gE hj,<-hc,<-ej];simp
  have hkj:k<=j:=by
   rcases Nat.lt_or_ge j k with h1|h1
   ·have:=h.lo j h1;rw[e2,zr]at this;omega
   ·exact h1
  have h3:=QO q.length (qAP hS hkj hj);rw[e2]at h3;have h4:=h.hi k (nR _) (by omega);exact hk ⟨by omega,by omega⟩
def shr(va vb:List Int):List Int:=va.filter fun x=>decide (x∈vb)
theorem qBQ(h:va.Pairwise (·< ·)):(shr va vb).Pairwise (·< ·):=h.filter _
theorem ZE(h:x∈shr va vb):x∈va:=(List.mem_filter.1 h).1
theorem YK(h:x∈shr va vb):x∈vb:=of_decide_eq_true (List.mem_filter.1 h).2
theorem y8(va vb:List Int):(shr va vb).length<=va.length:=List.length_filter_le _ _
theorem Zz(va vb:List Int):atP va (plc (fun i=>decide (va.getD i 0∈vb)) va.length)=shr va vb:=Qi va vb
def kp(p:Nat->Bool)(n:Nat):List Nat:=(List.range n).filter p
theorem Ud{p:Nat->Bool}(h:p n=true):kp p (n+1)=kp p n++[n]:=by
 unfold kp;rw[List.range_succ,List.filter_append];simp[h]
theorem Xk{p:Nat->Bool}(h:p n=false):kp p (n+1)=kp p n:=by
 unfold kp;rw[List.range_succ,List.filter_append];simp[h]
theorem qES(p:Nat->Bool)(n:Nat):(kp p n).length<=n:=bK (List.length_filter_le _ _) (by simp)
def vlA(R:List (List Int))(q:List Int)(i:Nat):Int:=(R.getD i []).getD q.length 0
def kc(R:List (List Int))(q:List Int)(k j:Nat):Bool:=decide (j=0)||!decide (vlA R q (k+j - 1)=vlA R q (k+j))
def VA(R:List (List Int))(q:List Int)(k n:Nat):List Int:=(kp (kc R q k) n).map fun j=>vlA R q (k+j)
structure Run(R:List (List Int))(q:List Int)(k n:Nat):Prop where
 le:k+n<=R.length
 beg:∀j,j < n->(R.getD (k+j) []).take q.length=q
section
variable {R:List (List Int)} {q:List Int} {k n:Nat}
theorem XU(hl:∀r∈R,q.length < r.length)(hi:i < R.length)(h:(R.getD i []).take q.length=q):q++[vlA R q i] <+:R.getD i []:=by
 have hm:R.getD i []∈R:=by rw[gD,gE hi];exact gM hi
 have h1:=hl _ hm;have e:q++[vlA R q i]=(R.getD i []).take (q.length+1):=by rw[qm h1,h];rfl
 rw[e];exact List.take_prefix _ _
theorem qA4(hS:SL R)(hl:∀r∈R,q.length < r.length)(hij:i<=j)(hj:j < R.length)(h1:(R.getD i []).take q.length=q)(h2:(R.getD j []).take q.length=q):vlA R q i<=vlA R q j:=by
 by_cases e:i=j
 ·subst e;exact Int.le_refl _
 ·refine qBd (XU hl (by omega) h1) (XU hl hj h2) ?_;rw[gD,gE (show i < R.length by omega),gD,gE hj];exact List.pairwise_iff_getElem.1 hS i j (by omega) hj (by omega)
theorem Vz(x:Int):∀n,x∈VA R q k n↔∃j,j < n/\vlA R q (k+j)=x
 |0=>by unfold VA kp;simp
 |n+1=>by
  have ih:=Vz x n;cases hb:kc R q k n
  ·have e:VA R q k (n+1)=VA R q k n:=by unfold VA;rw[Xk hb]
   rw[e,ih];constructor
   ·rintro⟨j,hj,h⟩;exact⟨j,by omega,h⟩
   ·rintro⟨j,hj,h⟩;by_cases e2:j=n
    ·subst e2;unfold kc at hb;rw[Bool.or_eq_false_iff,decide_eq_false_iff_not,Bool.not_eq_false',dE]at hb;exact⟨j - 1,by omega,by rw[show k+(j - 1)=k+j - 1 by omega,hb.2];exact h⟩
    ·exact⟨j,by omega,h⟩
  ·have e:VA R q k (n+1)=VA R q k n++[vlA R q (k+n)]:=by unfold VA;rw[Ud hb,mA];rfl
   rw[e,List.mem_append,ih,List.mem_singleton];constructor
   ·rintro (⟨j,hj,h⟩|h)
    ·exact⟨j,by omega,h⟩
    ·exact⟨n,by omega,h.symm⟩
   ·rintro⟨j,hj,h⟩;by_cases e2:j=n
    ·subst e2;exact Or.inr h.symm
    ·exact Or.inl ⟨j,by omega,h⟩
theorem qA5(hS:SL R)(hl:∀r∈R,q.length < r.length):∀n,Run R q k n->(VA R q k n).Pairwise (·< ·)
 |0,_=>by unfold VA kp;simp
 |n+1,h=>by
  have ih:=qA5 hS hl n ⟨by have:=h.le;omega,fun j hj=>h.beg j (by omega)⟩;cases hb:kc R q k n
  ·have e:VA R q k (n+1)=VA R q k n:=by unfold VA;rw[Xk hb]
   rw[e];exact ih
  ·have e:VA R q k (n+1)=VA R q k n++[vlA R q (k+n)]:=by unfold VA;rw[Ud hb,mA];rfl
   rw[e,List.pairwise_append];refine⟨ih,List.pairwise_singleton _ _,fun a ha b hb2=>?_⟩;rw[List.mem_singleton]at hb2;subst hb2;obtain⟨j,hj,rfl⟩:=(Vz a n).1 ha;have hle:=h.le;unfold kc at hb;rw[Bool.or_eq_true,dE,Bool.not_eq_true',decide_eq_false_iff_not]at hb;rcases hb with hb|hb
   ·omega
   ·have h1:=qA4 hS hl (i:=k+j) (j:=k+n - 1) (by omega) (by omega) (h.beg j (by omega)) (by have:=h.beg (n - 1) (by omega);rw[show k+(n - 1)=k+n - 1 by omega]at this;exact this);have h2:=qA4 hS hl (i:=k+n - 1) (j:=k+n) (by omega) (by omega) (by have:=h.beg (n - 1) (by omega);rw[show k+(n - 1)=k+n - 1 by omega]at this;exact this) (h.beg n (by omega));omega
theorem qEC(hS:SL R)(hl:∀r∈R,q.length < r.length)(hk:Sk R q k)(h:Run R q k n)(hE:k+n < R.length->(R.getD (k+n) []).take q.length≠q)(x:Int):x∈VA R q k n↔∃r∈R,q++[x] <+:r:=by
 rw[Vz];constructor
 ·rintro⟨j,hj,rfl⟩;have hle:=h.le;refine⟨R.getD (k+j) [],?_,XU hl (by omega) (h.beg j hj)⟩;rw[gD,gE (by omega)];exact gM _
 ·rintro⟨r,hr,hp⟩;obtain⟨i,hi,rfl⟩:=gO hr;have hg:R.getD i []=R[i]:=by rw[gD,gE hi];rfl
  rw[<-hg]at hp;obtain⟨g1,g2,g3⟩:=Uv hp
  have ht:(R.getD i []).take q.length=q:=by
   obtain⟨t,ht⟩:=hp;rw[<-ht,List.append_assoc,List.take_left]
  have hki:k<=i:=by
   rcases Nat.lt_or_ge i k with h1|h1
   ·have:=hk.lo i h1;rw[ht,zr]at this;omega
   ·exact h1
  have hin:i < k+n:=by
   rcases Nat.lt_or_ge i (k+n)with h1|h1
   ·exact h1
   ·exfalso;have h2:=QO q.length (qAP hS h1 hi);rw[ht]at h2;have h3:=hk.hi (k+n) (by omega) (by omega);exact hE (by omega) (xh (by omega))
  exact⟨i - k,by omega,by rw[show k+(i - k)=i by omega];exact g3⟩
end
end Go.Proofs.YtjbpgdpciinlcaaGreat
