import Derived.Deep.CutBlock
import Derived.Deep.DeepCutAuto
import Derived.Deep.RegionHeldLaw
import Derived.Laws.MakeOwn
import Derived.Laws.OwnMore
import Derived.Lib.SliceRun
import Derived.Test.YtjbpgdpciinlcaaGreatBg12
set_option maxHeartbeats 40000000
set_option maxRecDepth 1000000
namespace Go.Proofs.YtjbpgdpciinlcaaGreat
open Go.RowKit Meet
variable {xv:Int}{ls:List (List Int)}{l:List Int}{bs us xs:List Value}{B c c' cap fb g g' k n n0 nT o p s tb:Nat}{e t:TypeId}{u v v1 x y:Value}{A W W' W0 X Y w w3 wr:World}
structure Cq(w:World)(c o tb fb cap:Nat)(v1:Value)(l:List Int)(p:Nat):Prop where
 ptr:w.cell? ⟨c,o,none⟩=some (.pointer (some ⟨tb,0,none⟩))
 pl:w.cell? ⟨c,o+1,none⟩=some (.int .i64 p)
 fz:w.frozen? ⟨c,o+1,none⟩=false
 val:w.cell? ⟨tb,0,none⟩=some (.slice (some ⟨fb,0,none⟩) l.length cap)
 bel:w.cell? ⟨tb,1,none⟩=some v1
 own:∀j,j < l.length->w.cell? ⟨fb,j,none⟩=some (.int .i64 (l.getD j 0))
theorem Cq.drewN(h:Cq w c o tb fb cap v1 l p)(d:Nat):Cq (w.drewN d) c o tb fb cap v1 l p:=⟨h.ptr,h.pl,h.fz,h.val,h.bel,h.own⟩
theorem Uq(w:World)(c o tb fb cap:Nat)(v1:Value)(l:List Int)(p:Nat)(h:Cq w c o tb fb cap v1 l p):
 Cl 163 #[.pointer (some ⟨c,o,none⟩)] w fun e w'=>e=.returned (.bool (decide (p=l.length)))/\∃d,w'=w.drewN d:=by
 have h1:=h.ptr;have h2:=h.pl;have h3:=h.val;rw[<-Xq];generalize l.length=n at *;clear h;go_enter Tryz.func163,Tryz.ntmps163
 go_wp2_with fail
 go_quiet (fail)
 go_wp2;go_ret;exact⟨qG (by first|rfl|simp),_,rfl⟩
theorem Ur(w:World)(c o tb fb cap:Nat)(v1:Value)(l:List Int)(p:Nat)(h:Cq w c o tb fb cap v1 l p)(hp:p < l.length):
 Cl 164 #[.pointer (some ⟨c,o,none⟩)] w fun e w'=>e=.returned (.int .i64 (l.getD p 0))/\∃d,w'=w.drewN d:=by
 have h1:=h.ptr;have h2:=h.pl;have h3:=h.val;have h4:=h.own p hp;have i1:(p:Int) < (l.length:Int):=by omega
 generalize l.getD p 0=x at *;generalize l.length=n at *;clear h;go_enter Tryz.func164,Tryz.ntmps164
 go_wp2_with fail
 go_quiet (fail)
 go_wp2;go_ret;exact⟨rfl,_,rfl⟩
theorem Us(w:World)(c o tb fb cap gb n cb:Nat)(l:List Int)(p:Nat)(y:Value)(h:Cq w c o tb fb cap (.slice (some ⟨gb,0,none⟩) n cb) l p)(hp:p < n)(hy:w.cell? ⟨gb,p,none⟩=some y):
 Cl 191 #[.pointer (some ⟨c,o,none⟩)] w fun e w'=>e=.returned y/\∃d,w'=w.drewN d:=by
 have h1:=h.ptr;have h2:=h.pl;have h3:=h.bel;have i1:(p:Int) < (n:Int):=by omega
 clear h;go_enter Tryz.func191,Tryz.ntmps191
 go_wp2_with fail
 go_quiet (fail)
 go_wp2;go_ret;exact⟨rfl,_,rfl⟩
theorem Cq.is_from(h:Cq w c o tb fb k v1 l p)(hp:p < l.length)(cap:Nat):IS w (.slice (some ⟨fb,p,none⟩) (l.length - p) cap) (l.drop p):=by
 refine⟨_,cap,by rw[List.length_drop],Or.inr ⟨fb,p,rfl,fun j hj=>?_⟩⟩;rw[List.length_drop]at hj;rw[h.own (p+j) (by omega),gD,gD,List.getElem?_drop]
theorem Jb(w:World)(c o tb fb cap:Nat)(v1:Value)(l:List Int)(p:Nat)(g:Int)(h:Cq w c o tb fb cap v1 l p)(hl:l.length<=1099511627776)(hcl:l.length<=cap)(hpl:p < l.length)(ha:Asc l):
 Cl 162 #[.pointer (some ⟨c,o,none⟩),.int .i64 g] w fun e w'=>(∃v,e=.returned v)/\∃d,w'=(w.drewN d).setCell ⟨c,o+1,none⟩ (.int .i64 (p+bsQ (l.drop p) g:Nat)):=by
 have h1:=h.ptr;have h2:=h.pl;have h3:=h.val;have h4:=h.fz;have hq:=(ZD (XQ ha p) g).1;rw[List.length_drop]at hq
 have HK:Hid (∀q cap,Cl 129 #[.slice (some ⟨fb,p,none⟩) (l.length - p) cap,.int .i64 g] (w.drewN q) fun e w'=>e=.returned (.tuple #[.int .i64 (bsQ (l.drop p) g),.bool (bsF (l.drop p) g)])/\∃d,w'=(w.drewN q).drewN d):=hid (fun q cap=>
  kB (w.drewN q) _ (l.drop p) g ((h.drewN q).is_from hpl cap) (by rw[List.length_drop];omega) (XQ ha p))
 have i1:(p:Int)<=(l.length:Int):=by omega
 generalize bsQ (l.drop p) g=k at *;generalize bsF (l.drop p) g=kf at *;generalize l.length=n at *;clear h ha;go_enter Tryz.func162,Tryz.ntmps162
 go_wp2_with fail
 go_quiet ((go_at_call 129;exact Calls.quiet_of (HK.out _ _)))
 go_wp2;go_end0
 exact⟨⟨_,rfl⟩,_,by rw[Int.natCast_add]⟩
theorem uS(h:l.Pairwise (·< ·)):Asc l:=fun i j hij hj=>by
 have:=List.pairwise_iff_getElem.1 h i j (by omega) hj hij;rw[gD,gD,gE (by omega),gE hj];exact this
theorem Ut(ha:Asc l){x:Int}(hx:x∈l):bsQ l x < l.length/\l.getD (bsQ l x) 0=x:=by
 obtain⟨h1,h2,h3⟩:=ZD (ur ha) x;obtain⟨j,hj,e⟩:=gO hx;have ej:l.getD j 0=x:=by rw[gD,gE hj,e];rfl
 have hq:bsQ l x<=j:=by
  rcases Nat.lt_or_ge j (bsQ l x)with h|h
  ·have:=h2 j h;omega
  ·exact h
 refine⟨by omega,?_⟩;have h4:=h3 (bsQ l x) (nR _) (by omega);have h5:=ur ha (bsQ l x) j hq hj;omega
theorem qDj{x:Int}(hx:x∉l)(h:bsQ l x < l.length):l.getD (bsQ l x) 0≠x:=fun e=>hx (by
 rw[<-e,gD,gE h];exact gM _)
theorem Ko(w:World)(x y:Value)(t:TypeId):∀j u,[x,y][j]?=some u->(w.alloc (.cells #[x,y] t)).cell? ((⟨w.heap.size,0,none⟩:Addr).add j)=some u:=by
 intro j u hj;match j,hj with
 |0,hj=>simp at hj;subst hj;simp[Addr.add]
 |1,hj=>simp at hj;subst hj;simp[Addr.add]
def yY(nd:Nat->Nat)(q:Nat->Nat)(k:Nat):List Value:=(List.range k).flatMap fun i=>[.pointer (some ⟨nd i,0,none⟩),.int .i64 (q i)]
theorem vM(nd q:Nat->Nat)(k:Nat):yY nd q (k+1)=yY nd q k++[.pointer (some ⟨nd k,0,none⟩),.int .i64 (q k)]:=by
 unfold yY;rw[List.range_succ,List.flatMap_append];simp
theorem xr(nd q:Nat->Nat)(k:Nat):(yY nd q k).length=k*2:=by
 induction k with
 |zero=>rfl
 |succ k ih=>rw[vM,lA,ih];simp;omega
theorem Vn(nd q:Nat->Nat)(k i:Nat)(hi:i < k):(yY nd q k)[i*2]?=some (.pointer (some ⟨nd i,0,none⟩))/\(yY nd q k)[i*2+1]?=some (.int .i64 (q i)):=by
 induction k with
 |zero=>omega
 |succ k ih=>
  rw[vM];by_cases e:i < k
  ·have:=ih e;rw[aL (by rw[xr];omega),aL (by rw[xr];omega)];exact this
  ·obtain rfl:i=k:=by omega
   rw[bN (by rw[xr];omega),bN (by rw[xr];omega),xr];refine⟨?_,?_⟩
   ·rw[Nat.sub_self];rfl
   ·rw[show i*2+1 - i*2=1 by omega];rfl
theorem YX(w:World)(vp vt:Value)(bb nT cb:Nat)(ts:List Int)(nd:Nat->Nat)(hsp:∃a n c,vp=.slice a n c)(ht:IS w vt ts)(hn:ts.length<=1000)
 (hin:∀j,j < ts.length->0<=ts.getD j 0/\ts.getD j 0 < nT) (hnd:∀j,j < ts.length->w.cell? ⟨bb,(ts.getD j 0).toNat,none⟩=some (.pointer (some ⟨nd j,0,none⟩))):
 Cl 160 #[.agg #[vp,.slice (some ⟨bb,0,none⟩) nT cb],vt] w fun e w'=>∃v,e=.returned v/\w'.ownsRow w.heap.size 207 2 v ts.length (yY nd (fun _=>0) ts.length)/\Bl w w':=by
 obtain⟨iC,hi,hz0,hz1,hz2⟩:=info_parts Tryz.infoCur;obtain⟨ap,np,cp,rfl⟩:=hsp;obtain⟨at',ct,rfl,hc⟩:=ht;obtain⟨n,hnn⟩:∃n,n=ts.length:=⟨_,rfl⟩;rw[<-hnn]at hc hn hin hnd ⊢;clear hnn;obtain⟨Wx,hWx⟩:∃Wx,Wx=w.alloc (.cells #[.slice ap np cp,.slice (some ⟨bb,0,none⟩) nT cb] 134):=⟨_,rfl⟩;have hBx:Bl w Wx:=by rw[hWx];exact(bI _ _).alloc (nR _) _
 have hsx:Wx.heap.size=w.heap.size+1:=by rw[hWx];simp
 have hbx:Wx.cell? ⟨w.heap.size,1,none⟩=some (.slice (some ⟨bb,0,none⟩) nT cb):=by rw[hWx,cA _ _ _ _ rfl];rfl
 obtain⟨Wm,hmk',hownm,hgrm⟩:=run_makeSlice_owned (P:=Tryz.prog) Wx w.heap.size 202 207 iC (.agg #[.pointer none,.int .i64 0]) 2 Tryz.underlying202 hi hz0 hz1 .i64 .i64 n (by omega) (by rw[hz2];omega) (by unfold maxLen;omega) (by omega);have hmk:Sem.run Tryz.prog (Instr.makeSlice 202 (.int .i64 0) (.int .i64 (n:Int))) Wx=.ok (.slice (some ⟨Wx.heap.size,0,none⟩) 0 n) Wm:=hmk';have hBm:Bl w Wm:=hBx.grown hgrm (by omega) (fun k hk=>by cases hk);have HBM:=hid hBm;have HOM:=hid hownm;have hbm:Wm.cell? ⟨w.heap.size,1,none⟩=some (.slice (some ⟨bb,0,none⟩) nT cb):=(bE (w:=Wx) (a:=⟨w.heap.size,1,none⟩) (hgrm.block _ (by show w.heap.size < _;omega) (fun e=>by cases e))).trans hbx;have htm:∃cur,Wm.heap[w.heap.size]?=some (.cells cur 134 (0,0)):=⟨#[.slice ap np cp,.slice (some ⟨bb,0,none⟩) nT cb],(hgrm.block _ (by omega) (fun e=>by cases e)).trans (by rw[hWx];exact heap_alloc_new _ _)⟩;have HTM:=hid htm
 have HC:Hid (∀W,Bl w W->∀j,j < n->∃(b o:Nat),at'=some ⟨b,o,none⟩/\W.cell? ⟨b,o+j,none⟩=some (.int .i64 (ts.getD j 0))/\W.cell? ⟨bb,(ts.getD j 0).toNat,none⟩=some (.pointer (some ⟨nd j,0,none⟩))):=hid fun W hW j hj=>by
  rcases hc with h0|⟨b,o,rfl,h⟩
  ·omega
  ·exact⟨b,o,rfl,(hW.cell (bL w _ (h j hj))).trans (h j hj),(hW.cell (bL w _ (hnd j hj))).trans (hnd j hj)⟩
 have HIN:=hid hin;clear hc hin hnd hmk' hownm hgrm hBm htm hBx;go_enter Tryz.func160,Tryz.ntmps160
 go_upto_region 1 with fail
 rw[<-hWx];clear hWx hbx;go_upto_block 0 with fail
 clear hmk;go_wp2_with fail
 go_loopw [5,13] (fun v t wr=>∃(k:Nat) (vo:Value),k<=n/\t=.int .i64 k/\vo=v/\wr.cell? ⟨w.heap.size,1,none⟩=some (.slice (some ⟨bb,0,none⟩) nT cb)/\Hid (Bl w wr/\wr.ownsRow w.heap.size 207 2 vo k (yY nd (fun _=>0) k)/\∃cur,wr.heap[w.heap.size]?=some (.cells cur 134 (0,0)))) (fun _ t _=>n - (intOf t).toNat)
 case atStart=>exact⟨0,_,nZ _,rfl,rfl,hbm,hid ⟨HBM.out,by have:=HOM.out;rw[hsx]at this;exact this,HTM.out⟩⟩
 case round=>
  clear hbm HBM HOM HTM;obtain⟨k,vo,hk,rfl,rfl,hbr,HT⟩:=hrel;by_cases hkn:k < n
  ·have i1:(k:Int) < (n:Int):=by omega
   obtain⟨b,o,ea,c1,c2⟩:=HC.out wr HT.out.1 k hkn;subst ea;have h3:=HIN.out k hkn;obtain⟨t,ht⟩:∃t:Nat,t=(ts.getD k 0).toNat:=⟨_,rfl⟩;have e1:ts.getD k 0=(t:Int):=by omega
   rw[e1]at c1 c2;have i2:(t:Int) < (nT:Int):=by omega
   rw[show((t:Int)).toNat=t by omega]at c2;clear h3 ht e1 HC HIN;have hs:=HT.out.1.size
   go_wp2_with (first
    |(at_builtin;refine wpList_append_lies _ rfl _ _ 202 rfl w.heap.size 207 iC (.agg #[.pointer none,.int .i64 0]) 2 16 Tryz.underlying202 hi hz0 hz1 hz2 rfl (by decide) vo _ _ rfl (HT.out.2.1.alloc _) ⟨_,0,none⟩ 1 1 [.pointer (some ⟨nd k,0,none⟩),.int .i64 0] rfl rfl (Ko _ _ _ _) (fun u hu=>by simp at hu;rcases hu with rfl|rfl <;> rfl) (by decide) (by unfold maxLen;omega) (by omega) (by simp;omega) _ rfl ?_;intro g3 cp3 w3 hown3 hgrow3 hat3 hlt3)
    |fail)
   obtain⟨cur,hcur⟩:=HT.out.2.2;have hk3:w3.heap[w.heap.size]?=wr.heap[w.heap.size]?:=zi hgrow3 (qR hcur) (own_ne HT.out.2.1 ⟨cur,hcur⟩ (by decide));have hb3:w3.cell? ⟨w.heap.size,1,none⟩=some (.slice (some ⟨bb,0,none⟩) nT cb):=(bE (w:=wr) (a:=⟨w.heap.size,1,none⟩) hk3).trans hbr;have HN:Hid (Bl w w3/\w3.ownsRow w.heap.size 207 2 (.slice (some ⟨g3,0,none⟩) (k+1) cp3) (k+1) (yY nd (fun _=>0) (k+1))/\∃cur,w3.heap[w.heap.size]?=some (.cells cur 134 (0,0))):=hid ⟨(HT.out.1.alloc hs _).grown hgrow3 (by simp;omega) (fun q hq=>(HT.out.2.1.lt q hq).1),by rw[vM];exact hown3,cur,hk3.trans hcur⟩;clear hown3 hgrow3 hat3 hlt3 HT hbr hk3 hcur;go_roundw
   case rel=>exact⟨k+1,_,by omega,by go_num,rfl,hb3,HN⟩
   case measure=>simp[intOf];omega
  ·obtain rfl:k=n:=by omega
   have i1:¬((k:Int) < (k:Int)):=by omega
   clear HC HIN;go_wp2_with fail
   go_ret;exact⟨vo,rfl,HT.out.2.1,HT.out.1⟩
theorem Vr(w:World)(cu cc n:Nat)(nd q:Nat->Nat)(ba:Nat->Option Addr)(ln ca:Nat->Nat)(h1:0 < n)(hn:n<=1000)(hc:∀j,j < n->w.cell? ⟨cu,j*2,none⟩=some (.pointer (some ⟨nd j,0,none⟩))/\w.cell? ⟨cu,j*2+1,none⟩=some (.int .i64 (q j)))
 (hv:∀j,j < n->w.cell? ⟨nd j,0,none⟩=some (.slice (ba j) (ln j) (ca j))):
 Cl 161 #[.slice (some ⟨cu,0,none⟩) n cc] w fun e w'=>∃i,i < n/\e=.returned (.slice (ba i) (ln i) (ca i))/\Bl w w':=by
 obtain⟨c0,-⟩:=hc 0 h1;have v0:=hv 0 h1;rw[Nat.zero_mul]at c0;have i0:(0:Int) < (n:Int):=by omega
 have HC:Hid (∀W,Bl w W->∀j,j < n->W.cell? ⟨cu,j*2,none⟩=some (.pointer (some ⟨nd j,0,none⟩))/\W.cell? ⟨cu,j*2+1,none⟩=some (.int .i64 (q j))/\W.cell? ⟨nd j,0,none⟩=some (.slice (ba j) (ln j) (ca j))):=hid fun W hW j hj=>
  ⟨(hW.cell (bL w _ (hc j hj).1)).trans (hc j hj).1,(hW.cell (bL w _ (hc j hj).2)).trans (hc j hj).2,(hW.cell (bL w _ (hv j hj))).trans (hv j hj)⟩
 clear hc hv;go_enter Tryz.func161,Tryz.ntmps161
 go_upto_block 0 with fail
 clear c0 v0;go_wp2_with fail
 go_loopw [3,15] (fun v t wr=>∃(k i:Nat),k<=n/\i < n/\t=.int .i64 k/\v=.slice (ba i) (ln i) (ca i)/\Hid (Bl w wr)) (fun _ t _=>n - (intOf t).toNat)
 case atStart=>exact⟨0,0,nZ _,h1,rfl,rfl,hid (bI _ _)⟩
 case round=>
  obtain⟨k,i,hk,hi,rfl,rfl,HB⟩:=hrel;by_cases hkn:k < n
  ·have i1:(k:Int) < (n:Int):=by omega
   obtain⟨c1,c2,c3⟩:=HC.out wr HB.out k hkn;obtain⟨W2,hW2⟩:∃W2,W2=wr.alloc (.cells #[.pointer (some ⟨nd k,0,none⟩),.int .i64 (q k)] 207):=⟨_,rfl⟩;have hB2:Bl wr W2:=by rw[hW2];exact(bI _ _).alloc (nR _) _
   have d1:W2.cell? ⟨wr.heap.size,0,none⟩=some (.pointer (some ⟨nd k,0,none⟩)):=by rw[hW2,cA _ _ _ _ rfl];rfl
   have d3:W2.cell? ⟨nd k,0,none⟩=some (.slice (ba k) (ln k) (ca k)):=(hB2.cell (bL wr _ c3)).trans c3;have HB2:=hid (bt HB.out hB2);clear hB2 HC c3;go_upto_region 5 with fail
   rw[<-hW2];clear hW2 c1 c2;by_cases hlt:(ln k:Int) < (ln i:Int)
   ·go_wp2_with fail
    go_roundw
    case rel=>exact⟨k+1,k,by omega,hkn,by go_num,rfl,HB2⟩
    case measure=>simp[intOf];omega
   ·go_wp2_with fail
    go_roundw
    case rel=>exact⟨k+1,i,by omega,hi,by go_num,rfl,HB2⟩
    case measure=>simp[intOf];omega
  ·obtain rfl:k=n:=by omega
   have i1:¬((k:Int) < (k:Int)):=by omega
   clear HC;go_wp2_with fail
   go_ret;exact⟨i,hi,rfl,HB.out⟩
theorem kK(w:World)(v:Value)(l:List Int)(h:IS w v l)(hl:l.length<=100000):
 Cl 88 #[v] w fun e w'=>∃v',e=.returned v'/\w'.ownsRow w.heap.size 3 1 v' l.length (l.map (Value.int .i64))/\Bl w w':=by
 obtain⟨i0,hi,hz0,hz1,hz2⟩:=info_parts Tryz.infoInt;obtain⟨a,cap,rfl,hc⟩:=h;cases a with
 |none=>
  have h0:l.length=0:=by
   rcases hc with h0|⟨b,o,e,-⟩
   ·exact h0
   ·cases e
  have e0:l=[]:=List.eq_nil_of_length_eq_zero h0;subst e0;have hq:∀w:World,(binOp .eql 24 (.slice none 0 cap) (.slice none 0 0)).run Tryz.prog w=.ok (.bool true) w:=fun w=>Lib.run_eql_slice_nil w 24 3 none 0 cap 0 0 Tryz.underlying24;go_enter Tryz.func88,Tryz.ntmps88
  go_wp2;go_ret;exact⟨_,rfl,oN _ _ _ _,bI _ _⟩
 |some ad=>
  have hq:∀w:World,(binOp .eql 24 (.slice (some ad) l.length cap) (.slice none 0 0)).run Tryz.prog w=.ok (.bool false) w:=fun w=>Lib.run_eql_slice_nil w 24 3 (some ad) l.length cap 0 0 Tryz.underlying24;have hown:(w.alloc (.cells #[] 3)).ownsRow w.heap.size 3 1 (.slice (some ⟨w.heap.size,0,none⟩) 0 0) 0 []:=oM w #[] 0 (nR _) (by decide) rfl;have hbA:Bl w (w.alloc (.cells #[] 3)):=(bI _ _).alloc (nR _) _;by_cases h0:l.length=0
  ·have e0:l=[]:=List.eq_nil_of_length_eq_zero h0;subst e0;have hq0:∀w:World,(binOp .eql 24 (.slice (some ad) 0 cap) (.slice none 0 0)).run Tryz.prog w=.ok (.bool false) w:=hq;clear hq hc h0;go_enter Tryz.func88,Tryz.ntmps88
   go_wp2_with (first|(at_builtin;refine wpList_append_own _ rfl _ _ 24 rfl w.heap.size 3 i0 (.int .i64 0) 1 8 Tryz.underlying24 hi hz0 hz1 hz2 rfl (by decide) (.slice (some ⟨w.heap.size,0,none⟩) 0 0) 0 [] rfl hown ad 0 cap [] rfl rfl (fun j u hu=>by simp at hu) (fun u hu=>by cases hu) (by unfold maxLen;omega) (by omega) (by simp) ?_;intro v3 w3 hown3 hgrow3 _)|fail)
   go_ret;exact⟨_,rfl,hown3,hbA.grown hgrow3 (by simp) (fun k hk=>(hown.lt k hk).1)⟩
  ·obtain⟨b,o,e,hc'⟩:∃b o,some ad=some (⟨b,o,none⟩:Addr)/\∀j,j < l.length->w.cell? ⟨b,o+j,none⟩=some (.int .i64 (l.getD j 0)):=by
    rcases hc with h1|h1
    ·omega
    ·exact h1
   obtain rfl:=Option.some.inj e;clear hc e
   have hnews:∀j u,(l.map (Value.int .i64))[j]?=some u->(w.alloc (.cells #[] 3)).cell? ((⟨b,o,none⟩:Addr).add j)=some u:=fun j u hu=>by
    have hj:j < l.length:=by
     rcases Nat.lt_or_ge j l.length with h|h
     ·exact h
     ·rw[gN (by simpa using h)]at hu;cases hu
    rw[show((⟨b,o,none⟩:Addr).add j)=⟨b,o+j,none⟩by unfold Addr.add;split <;> simp_all,hbA.cell (p:=⟨b,o+j,none⟩) (bL w _ (hc' j hj)),hc' j hj,<-hu,bJ,gD,gE hj];rfl
   have HNW:=hid hnews;clear hnews hc';obtain⟨n,hn⟩:∃n,n=l.length:=⟨_,rfl⟩;have HN:=hid hn;rw[<-hn]at hq hl h0 ⊢;clear hn;go_enter Tryz.func88,Tryz.ntmps88
   go_wp2_with (first|(at_builtin;refine wpList_append_lies _ rfl _ _ 24 rfl w.heap.size 3 i0 (.int .i64 0) 1 8 Tryz.underlying24 hi hz0 hz1 hz2 rfl (by decide) (.slice (some ⟨w.heap.size,0,none⟩) 0 0) 0 [] rfl hown ⟨b,o,none⟩ n cap (l.map (Value.int .i64)) rfl (by rw[lM,HN.out];omega) HNW.out (fun u hu=>by obtain⟨x,_,rfl⟩:=List.mem_map.1 hu;rfl) (by omega) (by unfold maxLen;omega) (by omega) (by simp) _ rfl ?_;intro g3 cp3 w3 hown3 hgrow3 hat3 hlt3)|fail)
   go_ret;refine⟨_,rfl,?_,hbA.grown hgrow3 (by simp) (fun k hk=>(hown.lt k hk).1)⟩;simpa using hown3
theorem Tryz.infoTriP:(Tryz.prog.info? 137).map (fun i=>(i.zero,i.size,i.bytes))=some (some (.pointer none),1,8):=by kernel_rfl
theorem qA0(h:W.ownsRow B e 1 (.slice (some ⟨g,0,none⟩) n c) n xs):∀j u,xs[j]?=some u->W.cell? ((⟨g,0,none⟩:Addr).add j)=some u:=h.cells rfl
theorem YY(w:World)(B g cap n:Nat)(xs:List Value)(h:w.ownsRow B 137 1 (.slice (some ⟨g,0,none⟩) n cap) n xs)(h0:0 < n)(hl:n<=100000)(hone:∀u∈xs,u.oneCell'=true):
 Cl 190 #[.slice (some ⟨g,0,none⟩) n cap] w fun e w'=>∃g' c',e=.returned (.slice (some ⟨g',0,none⟩) n c')/\w'.ownsRow w.heap.size 137 1 (.slice (some ⟨g',0,none⟩) n c') n xs/\Bl w w':=by
 obtain⟨i0,hi,hz0,hz1,hz2⟩:=info_parts Tryz.infoTriP;have hq:∀w:World,(binOp .eql 132 (.slice (some ⟨g,0,none⟩) n cap) (.slice none 0 0)).run Tryz.prog w=.ok (.bool false) w:=fun w=>Lib.run_eql_slice_nil w 132 137 (some ⟨g,0,none⟩) n cap 0 0 Tryz.underlying132;have hown:(w.alloc (.cells #[] 137)).ownsRow w.heap.size 137 1 (.slice (some ⟨w.heap.size,0,none⟩) 0 0) 0 []:=oM w #[] 0 (nR _) (by decide) rfl;have hbA:Bl w (w.alloc (.cells #[] 137)):=(bI _ _).alloc (nR _) _;have HNW:=hid (qA0 (qB h hbA));have HL:=hid h.1;clear h;go_enter Tryz.func190,Tryz.ntmps190
 go_wp2_with (first|(at_builtin;refine wpList_append_lies _ rfl _ _ 132 rfl w.heap.size 137 i0 (.pointer none) 1 8 Tryz.underlying132 hi hz0 hz1 hz2 rfl (by decide) (.slice (some ⟨w.heap.size,0,none⟩) 0 0) 0 [] rfl hown ⟨g,0,none⟩ n cap xs rfl HL.out HNW.out hone (by omega) (by unfold maxLen;omega) (by omega) (by simp) _ rfl ?_;intro g3 cp3 w3 hown3 hgrow3 hat3 hlt3)|fail)
 go_ret;refine⟨g3,cp3,rfl,?_,hbA.grown hgrow3 (by simp) (fun k hk=>(hown.lt k hk).1)⟩;simpa using hown3
theorem qE(h:Bl A X)(o:Obj):Bl A (X.alloc o):=h.alloc h.size o
theorem xQ(h:Bl A X):Bl A X.drew:=h.drew
theorem Qs(hk:k=X.heap.size)(hb:Below (X.alloc (.cells #[v] t)).heap.size (X.alloc (.cells #[v] t)) W):∀j u,[v][j]?=some u->W.cell? ((⟨k,0,none⟩:Addr).add j)=some u:=fun j u hj=>by
 subst hk;have h1:=qH X v t j u hj;exact(hb.cell (bL _ _ h1)).trans h1
theorem xG(h:w.ownsRow B e s v n xs):∃a cap,v=.slice a n cap:=by
 rcases h.2 with ⟨rfl,rfl⟩|⟨g,cap,cur,rfl,-⟩
 ·exact⟨_,_,rfl⟩
 ·exact⟨_,_,rfl⟩
def BrX(W:World)(k:Nat)(x y:Value):Prop:=W.heap[k]?=some (.cells #[x,y] 134 (0,0))
theorem BrX.new(W:World)(x y:Value):BrX (W.alloc (.cells #[x,y] 134)) W.heap.size x y:=heap_alloc_new _ _
theorem BrX.lt(h:BrX W k x y):k < W.heap.size:=qR h
theorem BrX.below(h:BrX W k x y)(hb:Bl W W'):BrX W' k x y:=(hb.block k h.lt).trans h
theorem BrX.c0(h:BrX W k x y):W.cell? ⟨k,0,none⟩=some x:=by rw[cell_of_row _ _ _ _ _ _ h];rfl
theorem BrX.c1(h:BrX W k x y):W.cell? ⟨k,1,none⟩=some y:=by rw[cell_of_row _ _ _ _ _ _ h];rfl
theorem BrX.free(h:BrX W k x y)(j:Nat):W.frozen? ⟨k,j,none⟩=false:=by unfold World.frozen?;rw[show W.heap[k]?=_ from h];simp
theorem BrX.set(h:BrX W k x y)(u v:Value):BrX ((W.setCell ⟨k,0,none⟩ u).setCell ⟨k,1,none⟩ v) k u v:=by
 unfold BrX;rw[bG _ _ _ _ _ _ (bG _ _ _ _ _ _ h)];rfl
theorem BrX.grown{o:Obj}(h:BrX W k x y)(hu:W.ownsRow B e s u n xs)(he:e≠134)(hg:(W.alloc o).grownBy w3 u.ownBlock):BrX w3 k x y:=(zi hg h.lt (own_ne hu ⟨_,h⟩ he)).trans h
theorem yS{u1 u2:Value}(h:W.ownsRow B e s v n xs)(hx:BrX W k x y)(he:e≠134):((W.setCell ⟨k,0,none⟩ u1).setCell ⟨k,1,none⟩ u2).ownsRow B e s v n xs:=
 qC h fun g hg=>by
  have hne:g≠k:=fun e2=>own_ne h ⟨_,hx⟩ he (by rw[<-e2];exact hg.symm);rw[bD _ _ _ _ (by exact hne),bD _ _ _ _ (by exact hne)]
structure WiE(w:World)(p:List Int)(xv:Int)(nT:Nat)(bs:List Value)(k:Nat)(wc:World)(g c g' c':Nat):Prop where
 box:BrX wc k (.slice (some ⟨g,0,none⟩) (p.length+1) c) (.slice (some ⟨g',0,none⟩) nT c')
 op:wc.ownsRow w.heap.size 3 1 (.slice (some ⟨g,0,none⟩) (p.length+1) c) (p.length+1) ((p++[xv]).map (Value.int .i64))
 ob:wc.ownsRow w.heap.size 137 1 (.slice (some ⟨g',0,none⟩) nT c') nT bs
 bel:Bl w wc
 low:w.heap.size<=k
def yO(bs:List Value)(ts:List Int)(y:Nat->Nat):Nat->List Value
 |0=>bs
 |k+1=>(yO bs ts y k).set (ts.getD k 0).toNat (.pointer (some ⟨y k,0,none⟩))
def ISx(X:Value->Prop)(w:World)(v:Value)(l:List Int):Prop:=ISc w v l/\X v
structure RSx(X:Value->Prop)(W0 W:World)(v:Value)(us:List Value)(ls:List (List Int)):Prop where
 sl:∃a cap,v=.slice a ls.length cap/\ls.length<=cap/\(ls.length=0∨∃b o,a=some ⟨b,o,none⟩/\∀j,j < ls.length->W.cell? ⟨b,o+j,none⟩=some (us.getD j undef))
 len:us.length=ls.length
 each:∀i,i < ls.length->ISx X W0 (us.getD i undef) (ls.getD i [])
theorem RSx.below{X:Value->Prop}(h:RSx X W0 W v us ls)(hb:Bl W W'):RSx X W0 W' v us ls:=by
 obtain⟨⟨a,cap,rfl,hc,h1⟩,h2,h3⟩:=h;refine⟨⟨a,cap,rfl,hc,?_⟩,h2,h3⟩;rcases h1 with h1|⟨b,o,rfl,h1⟩
 ·exact Or.inl h1
 ·exact Or.inr ⟨b,o,rfl,fun j hj=>(hb.cell (p:=⟨b,o+j,none⟩) (bL W _ (h1 j hj))).trans (h1 j hj)⟩
theorem RSx.take{X:Value->Prop}{a:Option Addr}(h:RSx X W0 W (.slice a n0 cap) us ls)(hn:n<=ls.length):RSx X W0 W (.slice a n cap) (us.take n) (ls.take n):=by
 obtain⟨⟨a',cap',e,hc,h1⟩,h2,h3⟩:=h;simp only[Value.slice.injEq]at e;obtain⟨rfl,rfl,rfl⟩:=e;have hl:(ls.take n).length=n:=by rw[bQ];omega
 refine⟨⟨a,cap,by rw[hl],by omega,?_⟩,by rw[hl,bQ];omega,fun i hi=>?_⟩
 ·rcases h1 with h1|⟨b,o,rfl,h1⟩
  ·exact Or.inl (by omega)
  ·exact Or.inr ⟨b,o,rfl,fun j hj=>by rw[getD_take (by omega)];exact h1 j (by omega)⟩
 ·rw[getD_take (by omega),getD_take (by omega)];exact h3 i (by omega)
theorem RSx.drop{X:Value->Prop}{b:Nat}(h:RSx X W0 W (.slice (some ⟨b,o,none⟩) n0 cap) us ls)(hn:n<=ls.length):RSx X W0 W (.slice (some ⟨b,o+n,none⟩) (n0 - n) (cap - n)) (us.drop n) (ls.drop n):=by
 obtain⟨⟨a',cap',e,hc,h1⟩,h2,h3⟩:=h;simp only[Value.slice.injEq]at e;obtain⟨rfl,rfl,rfl⟩:=e;have hl:(ls.drop n).length=ls.length - n:=List.length_drop ..;refine⟨⟨_,_,by rw[hl],by omega,?_⟩,by rw[hl,List.length_drop];omega,fun i hi=>?_⟩
 ·rcases h1 with h1|⟨b',o',e',h1⟩
  ·exact Or.inl (by omega)
  ·simp only[Option.some.injEq,Addr.mk.injEq,and_true]at e';obtain⟨rfl,rfl⟩:=e';exact Or.inr ⟨b,o+n,rfl,fun j hj=>by rw[vQ,Nat.add_assoc];exact h1 (n+j) (by omega)⟩
 ·rw[vQ,vQ];exact h3 (n+i) (by omega)
structure MSx(X:Value->Prop)(W0 W wr:World)(v:Value)(us:List Value)(ls:List (List Int)):Prop where
 bel:Bl W wr
 own:wr.ownsRow W.heap.size 24 1 v ls.length us
 len:us.length=ls.length
 each:∀i,i < ls.length->ISx X W0 (us.getD i undef) (ls.getD i [])
theorem MSx.start(X:Value->Prop)(W0 W:World):MSx X W0 W (W.alloc (.cells #[] 24)) (.slice (some ⟨W.heap.size,0,none⟩) 0 0) [] []:=
 ⟨(bI _ _).alloc (nR _) _,oM W #[] 0 (nR _) (by decide) rfl,rfl,fun i hi=>by simp at hi⟩
theorem MSx.push{X:Value->Prop}{v':Value}{o:Obj}(h:MSx X W0 W wr v us ls)(hu:ISx X W0 u l)(hown:w3.ownsRow W.heap.size 24 1 v' (ls.length+1) (us++[u]))(hg:(wr.alloc o).grownBy w3 v.ownBlock):MSx X W0 W w3 v' (us++[u]) (ls++[l]):=by
 refine⟨(h.bel.alloc h.bel.size o).grown hg (by have:=h.bel.size;simp;omega) (fun k hk=>(h.own.lt k hk).1),by rw[lA];exact hown,by simp[h.len],fun i hi=>?_⟩;rw[lA,lS]at hi;by_cases e:i < ls.length
 ·rw[gD,aL (by rw[h.len];exact e),gD (l:=ls++[l]),aL e,<-gD,<-gD];exact h.each i e
 ·have e1:(us++[u]).getD i undef=u:=by rw[gD,bN (by rw[h.len];omega),show i - us.length=0 by rw[h.len];omega];rfl
  have e2:(ls++[l]).getD i []=l:=by rw[gD,bN (by omega),show i - ls.length=0 by omega];rfl
  rw[e1,e2];exact hu
theorem MSx.rs{X:Value->Prop}(h:MSx X W0 W wr v us ls):RSx X W0 wr v us ls:=by
 refine⟨?_,h.len,h.each⟩;rcases h.own.2 with ⟨rfl,hn⟩|⟨g,cap,cur,rfl,hb',hc,hn,hcap,-,ht⟩
 ·exact⟨none,0,by rw[hn],by omega,Or.inl hn⟩
 ·refine⟨_,cap,rfl,?_,Or.inr ⟨g,0,rfl,fun j hj=>?_⟩⟩
  ·exact hn
  ·have hlen:=h.len;rw[Nat.zero_add,cell_of_row _ _ _ _ _ _ hc,gD,gE (by omega),Option.getD_some,<-gE (by omega:j < us.length),<-ht,List.getElem?_take_of_lt (by omega),Array.getElem?_toList]
theorem MSx.drewN{X:Value->Prop}(h:MSx X W0 W wr v us ls)(n:Nat):MSx X W0 W (wr.drewN n) v us ls:=⟨⟨h.bel.os,h.bel.tape,h.bel.output,h.bel.size,h.bel.block⟩,h.own,h.len,h.each⟩
theorem kD(X:Value->Prop)(W0:World):∀(n:Nat) (W:World) (v:Value) (us:List Value) (ls:List (List Int)),ls.length<=n->Bl W0 W->RSx X W0 W v us ls->ls.length<=100000->(∀r∈ls,r.length<=1099511627776)->
 Cl 48 #[v] W fun e w'=>∃v' us',e=.returned v'/\RSx X W0 w' v' us' (srt ls)/\qCo W v v'/\Bl W w':=by
 intro n;induction n with
 |zero=>
  intro W v us ls hn hB h hl hM;have HR:=hid h;obtain⟨⟨a,cap,rfl,-⟩,-,-⟩:=h;have e0:ls.length=0:=by omega
  have hS:srt ls=ls:=vP (by omega);rw[hS];rw[e0]at HR ⊢;go_enter Tryz.func48,Tryz.ntmps48
  go_wp2;go_ret;exact⟨_,us,rfl,HR.out,Or.inl rfl,bI _ _⟩
 |succ n ih=>
  intro W v us ls hn hB h hl hM;by_cases h2:ls.length < 2
  ·have HR:=hid h;obtain⟨⟨a,cap,rfl,-⟩,-,-⟩:=h;have hS:srt ls=ls:=vP h2;rw[hS];have i1:(ls.length:Int) < 2:=by omega
   go_enter Tryz.func48,Tryz.ntmps48
   go_wp2;go_ret;exact⟨_,us,rfl,HR.out,Or.inl rfl,bI _ _⟩
  ·rw[ZH h2];have HR:=hid h;obtain⟨⟨a,cap,rfl,hcap,hc⟩,-,-⟩:=h
   obtain⟨b,o,rfl,-⟩:∃b o,a=some ⟨b,o,none⟩/\∀j,j < ls.length->W.cell? ⟨b,o+j,none⟩=some (us.getD j undef):=by
    rcases hc with h0|h0
    ·omega
    ·exact h0
   clear hc;obtain⟨N,hN⟩:∃N,N=ls.length:=⟨_,rfl⟩
   have KA:Hid (∀w1,Bl W w1->Cl 48 #[.slice (some ⟨b,o,none⟩) (N / 2) cap] w1 fun e w'=>∃v' us',e=.returned v'/\RSx X W0 w' v' us' (srt (ls.take (N / 2)))/\Bl w1 w'):=hid fun w1 hb=>(
    ih w1 _ (us.take (N / 2)) (ls.take (N / 2)) (by rw[bQ];omega) (bt hB hb) ((HR.out.below hb).take (by omega)) (by rw[bQ];omega) (fun r hr=>hM r (List.mem_of_mem_take hr))).mono fun e w' ⟨v',us',h1,h2,_,h3⟩=>⟨v',us',h1,h2,h3⟩
   have KB:Hid (∀w1,Bl W w1->Cl 48 #[.slice (some ⟨b,o+N / 2,none⟩) (N - N / 2) (cap - N / 2)] w1 fun e w'=>∃v' us',e=.returned v'/\RSx X W0 w' v' us' (srt (ls.drop (N / 2)))/\Bl w1 w'):=hid fun w1 hb=>by
    have:=ih w1 (.slice (some ⟨b,o+N / 2,none⟩) (N - N / 2) (cap - N / 2)) (us.drop (N / 2)) (ls.drop (N / 2)) (by rw[List.length_drop];omega) (bt hB hb) (by rw[hN];exact(HR.out.below hb).drop (by omega)) (by rw[List.length_drop];omega) (fun r hr=>hM r (List.mem_of_mem_drop hr));exact this.mono fun e w' ⟨v',us',h1,h2,_,h3⟩=>⟨v',us',h1,h2,h3⟩
   have HMa:Hid (∀r∈srt (ls.take (N / 2)),r.length<=1099511627776):=hid fun r hr=>hM r (List.mem_of_mem_take (((yk _ (ls.take (N / 2)) (nR _)).2 r).1 hr));have HMb:Hid (∀r∈srt (ls.drop (N / 2)),r.length<=1099511627776):=hid fun r hr=>hM r (List.mem_of_mem_drop (((yk _ (ls.drop (N / 2)) (nR _)).2 r).1 hr));have hla:(srt (ls.take (N / 2))).length<=100000:=bK (x8 _ _ (nR _)) (by rw[bQ];omega);have hlb:(srt (ls.drop (N / 2))).length<=100000:=bK (x8 _ _ (nR _)) (by rw[List.length_drop];omega);rw[<-hN]at hcap hl h2 ⊢;have q2:¬((N:Int) < 2):=by omega
   have q5:¬cap=N / 2:=by omega
   have q6:N / 2<=cap:=by omega
   have q7:N / 2<=N:=by omega
   have HB:=hid hB;clear ih hn HR hM hN hB;generalize srt (ls.take (N / 2))=la at *;generalize srt (ls.drop (N / 2))=lb at *;clear us;go_enter Tryz.func48,Tryz.ntmps48
   go_wp2_with fail
   refine(KA.out W (bI _ _)).mono ?_;rintro e w1 ⟨va,ua,rfl,hRa,hb1⟩;have HRa:=hid hRa;have HB1:=hid hb1;clear hRa hb1 KA;go_wp2_with fail
   refine(KB.out w1 HB1.out).mono ?_;rintro e w2 ⟨vb,ub,rfl,hRb,hb2⟩;have HRa2:=hid (HRa.out.below hb2);have HRb:=hid hRb;have HB2:=hid (bt HB.out (bt HB1.out hb2));have HBw:=hid (bt HB1.out hb2);obtain⟨⟨aa,ca,rfl,-,-⟩,-,-⟩:=HRa.out;obtain⟨⟨ab,cb,rfl,-,-⟩,-,-⟩:=hRb;clear hb2 KB HRa HB1 HB q2 q5 q6 q7 hcap h2;have HS0:=hid (MSx.start X W0 w2)
   have HCa:Hid (∀W,Bl w2 W->∀i,i < la.length->∃b o u,aa=some ⟨b,o,none⟩/\W.cell? ⟨b,o+i,none⟩=some u/\ISx X W0 u (la.getD i [])):=hid fun W hW i hi=>by
    obtain⟨⟨a',c',e,-,h1⟩,-,h3⟩:=HRa2.out.below hW;simp only[Value.slice.injEq]at e;obtain⟨rfl,-,-⟩:=e;rcases h1 with h1|⟨b',o',rfl,h1⟩
    ·omega
    ·exact⟨b',o',_,rfl,h1 i hi,h3 i hi⟩
   have HCb:Hid (∀W,Bl w2 W->∀i,i < lb.length->∃b o u,ab=some ⟨b,o,none⟩/\W.cell? ⟨b,o+i,none⟩=some u/\ISx X W0 u (lb.getD i [])):=hid fun W hW i hi=>by
    obtain⟨⟨a',c',e,-,h1⟩,-,h3⟩:=HRb.out.below hW;simp only[Value.slice.injEq]at e;obtain⟨rfl,-,-⟩:=e;rcases h1 with h1|⟨b',o',rfl,h1⟩
    ·omega
    ·exact⟨b',o',_,rfl,h1 i hi,h3 i hi⟩
   have KC:Hid (∀W i j u v,Bl w2 W->i < la.length->j < lb.length->ISx X W0 u (la.getD i [])->ISx X W0 v (lb.getD j [])->Cl 71 #[u,v] W fun e w'=>e=.returned (.int .i64 (qD (la.getD i []) (lb.getD j [])))/\∃q,w'=W.drewN q):=hid fun W i j u v hW hi hj hu hv=>
    qy W u v _ _ (hu.1.1.below (bt HB2.out hW)) (hv.1.1.below (bt HB2.out hW)) (HMa.out _ (by rw[gD,gE hi];exact gM _)) (HMb.out _ (by rw[gD,gE hj];exact gM _))
   have HM:Hid (∀i j,i < la.length->j < lb.length->la.drop i=la.getD i []::la.drop (i+1)/\lb.drop j=lb.getD j []::lb.drop (j+1)):=hid fun i j hi hj=>⟨drop_cons hi,drop_cons hj⟩;have HDa:Hid (∀i,i < la.length->la.drop i=la.getD i []::la.drop (i+1)):=hid fun i hi=>drop_cons hi;have HDb:Hid (∀i,i < lb.length->lb.drop i=lb.getD i []::lb.drop (i+1)):=hid fun i hi=>drop_cons hi;have HEa:Hid (∀i,¬i < la.length->la.drop i=[]):=hid fun i hi=>Ul hi;have HEb:Hid (∀i,¬i < lb.length->lb.drop i=[]):=hid fun i hi=>Ul hi
   have HLm:Hid (∀lo i j,lo++mrg (la.drop i) (lb.drop j)=mrg la lb->lo.length<=200000):=hid fun lo i j h=>by
    have:=yF _ la lb (nR _);rw[<-h,lA]at this;omega
   clear HRa2 HRb HMa HMb HM;obtain⟨na,hna⟩:∃na,na=la.length:=⟨_,rfl⟩;obtain⟨nb,hnb⟩:∃nb,nb=lb.length:=⟨_,rfl⟩;rw[<-hna]at HCa KC HDa HEa hla ⊢;rw[<-hnb]at HCb KC HDb HEb hlb ⊢;clear hna hnb;obtain⟨iS,hj,hy0,hy1,hy2⟩:=info_parts Tryz.infoIS;go_wp2_with fail
   go_loopw [5,6,7] (fun t5 t6 t7 wr=>∃(i j:Nat) (vo:Value),i<=na/\j<=nb/\t6=.int .i64 i/\t7=.int .i64 j/\vo=t5/\Hid (∃uo lo,lo++mrg (la.drop i) (lb.drop j)=mrg la lb/\MSx X W0 w2 wr vo uo lo)) (fun _ t6 t7 _=>(na - (intOf t6).toNat)+(nb - (intOf t7).toNat))
   case atStart=>exact⟨0,0,_,nZ _,nZ _,rfl,rfl,rfl,hid ⟨[],[],by simp,HS0.out⟩⟩
   case round=>
    clear HS0;obtain⟨i,j,vo,hi,hj',rfl,rfl,rfl,HT⟩:=hrel;obtain⟨uo,lo,hlo,hMS⟩:=HT.out;have HLo:=hid hlo;have HMS:=hid hMS;have hlen:=HLm.out lo i j hlo;clear HT hlo hMS;by_cases hin:i < na
    ·have i1:(i:Int) < (na:Int):=by omega
     have i3:¬((i:Int)=(na:Int)):=by omega
     have i7:((i:Int) == (na:Int))=false:=by simp;omega
     have i8:¬(i=na):=by omega
     obtain⟨b1,o1,u1,ea,c1,hu1⟩:=HCa.out wr HMS.out.bel i hin;subst ea;have HU1:=hid hu1;obtain⟨⟨⟨a1,k1,rfl,-⟩,-⟩,-⟩:=hu1;by_cases hjn:j < nb
     ·have i2:(j:Int) < (nb:Int):=by omega
      have i4:¬((j:Int)=(nb:Int)):=by omega
      have i5:((j:Int) == (nb:Int))=false:=by simp;omega
      have i6:¬(j=nb):=by omega
      obtain⟨b2,o2,u2,ea,c2,hu2⟩:=HCb.out wr HMS.out.bel j hjn;subst ea;have HU2:=hid hu2;obtain⟨⟨⟨a2,k2,rfl,-⟩,-⟩,-⟩:=hu2;have KCg:Hid (∀W,Bl w2 W->Cl 71 #[.slice a1 (la.getD i []).length k1,.slice a2 (lb.getD j []).length k2] W fun e w'=>e=.returned (.int .i64 (qD (la.getD i []) (lb.getD j [])))/\∃q,w'=W.drewN q):=hid fun W hW=>KC.out W i j _ _ hW hin hjn HU1.out HU2.out
      have HNa:Hid (qD (la.getD i []) (lb.getD j []) < 0->lo++[la.getD i []]++mrg (la.drop (i+1)) (lb.drop j)=mrg la lb):=hid fun hc=>by
       have h:=HLo.out;rw[HDa.out i hin,HDb.out j hjn,Z6 hc,<-HDb.out j hjn]at h;rw[List.append_assoc];exact h
      have HNb:Hid (0 < qD (la.getD i []) (lb.getD j [])->lo++[lb.getD j []]++mrg (la.drop i) (lb.drop (j+1))=mrg la lb):=hid fun hc=>by
       have h:=HLo.out;rw[HDa.out i hin,HDb.out j hjn,Z7 hc,<-HDa.out i hin]at h;rw[List.append_assoc];exact h
      have HNc:Hid (¬qD (la.getD i []) (lb.getD j []) < 0->¬0 < qD (la.getD i []) (lb.getD j [])->lo++[la.getD i []]++mrg (la.drop (i+1)) (lb.drop (j+1))=mrg la lb):=hid fun h1 h2=>by
       have h:=HLo.out;rw[HDa.out i hin,HDb.out j hjn,Z8 h1 h2]at h;rw[List.append_assoc];exact h
      generalize qD (la.getD i []) (lb.getD j [])=cc at *;generalize (la.getD i []).length=m1 at *;generalize (lb.getD j []).length=m2 at *;clear KC HLo;have HQ1:Hid (∀q,Bl w2 (wr.drewN q)):=hid fun q=>(HMS.out.drewN q).bel;have HQ2:Hid (∀n q,Bl w2 ((wr.drewN n).drewN q)):=hid fun n q=>((HMS.out.drewN n).drewN q).bel;by_cases h1:cc < 0
      ·have h1':decide (cc < 0)=true:=by simp[h1]
       go_upto_region 12 with fail
       go_quiet (first|(go_at_call 71;exact Calls.quiet_of (KCg.out _ (HQ1.out _))))
       have HMSd:=hid (HMS.out.drewN nq);go_wp2_with (first|(at_builtin;refine wpList_append_lies _ rfl _ _ 23 rfl w2.heap.size 24 iS (.slice none 0 0) 1 24 Tryz.underlying23 hj hy0 hy1 hy2 rfl (by decide) vo _ uo rfl (HMSd.out.own.alloc _) ⟨_,0,none⟩ 1 1 [.slice a1 m1 k1] rfl rfl (qH _ _ _) (fun u hu=>by simp at hu;subst hu;rfl) (by decide) (by unfold maxLen;omega) (by omega) (by have:=HMSd.out.bel.size;simp at this ⊢;omega) _ rfl ?_;intro g3 cp3 w3 hown3 hgrow3 hat3 hlt3)|fail)
       go_roundw
       case rel=>exact⟨i+1,j,_,by omega,by omega,by go_num,rfl,rfl,hid ⟨_,_,HNa.out h1,HMSd.out.push HU1.out hown3 hgrow3⟩⟩
       case measure=>simp[intOf];omega
      ·have h1':decide (cc < 0)=false:=by simp;omega
       by_cases h2:0 < cc
       ·have h2':decide (0 < cc)=true:=by simp[h2]
        go_upto_region 12 with fail
        go_quiet (first|(go_at_call 71;exact Calls.quiet_of (KCg.out _ (HQ1.out _))))
        go_upto_region 15 with fail
        have HMS1:=hid (HMS.out.drewN nq);have HQ3:Hid (∀q,Bl w2 ((wr.drewN nq).drewN q)):=hid fun q=>HQ2.out nq q;have d1:(wr.drewN nq).cell? ⟨b1,o1+i,none⟩=some (.slice a1 m1 k1):=c1;have d2:(wr.drewN nq).cell? ⟨b2,o2+j,none⟩=some (.slice a2 m2 k2):=c2;generalize wr.drewN nq=W5 at HMS1 HQ3 d1 d2 ⊢;go_quiet (first|(go_at_call 71;exact Calls.quiet_of (KCg.out _ (HQ3.out _))))
        have HMSd:=hid (HMS1.out.drewN nq);go_wp2_with (first|(at_builtin;refine wpList_append_lies _ rfl _ _ 23 rfl w2.heap.size 24 iS (.slice none 0 0) 1 24 Tryz.underlying23 hj hy0 hy1 hy2 rfl (by decide) vo _ uo rfl (HMSd.out.own.alloc _) ⟨_,0,none⟩ 1 1 [.slice a2 m2 k2] rfl rfl (qH _ _ _) (fun u hu=>by simp at hu;subst hu;rfl) (by decide) (by unfold maxLen;omega) (by omega) (by have:=HMSd.out.bel.size;simp at this ⊢;omega) _ rfl ?_;intro g3 cp3 w3 hown3 hgrow3 hat3 hlt3)|fail)
        go_roundw
        case rel=>exact⟨i,j+1,_,by omega,by omega,rfl,by go_num,rfl,hid ⟨_,_,HNb.out h2,HMSd.out.push HU2.out hown3 hgrow3⟩⟩
        case measure=>simp[intOf];omega
       ·have h2':decide (0 < cc)=false:=by simp;omega
        go_upto_region 12 with fail
        go_quiet (first|(go_at_call 71;exact Calls.quiet_of (KCg.out _ (HQ1.out _))))
        go_upto_region 15 with fail
        have HMS1:=hid (HMS.out.drewN nq);have HQ3:Hid (∀q,Bl w2 ((wr.drewN nq).drewN q)):=hid fun q=>HQ2.out nq q;have d1:(wr.drewN nq).cell? ⟨b1,o1+i,none⟩=some (.slice a1 m1 k1):=c1;have d2:(wr.drewN nq).cell? ⟨b2,o2+j,none⟩=some (.slice a2 m2 k2):=c2;generalize wr.drewN nq=W5 at HMS1 HQ3 d1 d2 ⊢;go_quiet (first|(go_at_call 71;exact Calls.quiet_of (KCg.out _ (HQ3.out _))))
        have HMSd:=hid (HMS1.out.drewN nq);go_wp2_with (first|(at_builtin;refine wpList_append_lies _ rfl _ _ 23 rfl w2.heap.size 24 iS (.slice none 0 0) 1 24 Tryz.underlying23 hj hy0 hy1 hy2 rfl (by decide) vo _ uo rfl (HMSd.out.own.alloc _) ⟨_,0,none⟩ 1 1 [.slice a1 m1 k1] rfl rfl (qH _ _ _) (fun u hu=>by simp at hu;subst hu;rfl) (by decide) (by unfold maxLen;omega) (by omega) (by have:=HMSd.out.bel.size;simp at this ⊢;omega) _ rfl ?_;intro g3 cp3 w3 hown3 hgrow3 hat3 hlt3)|fail)
        go_roundw
        case rel=>exact⟨i+1,j+1,_,by omega,by omega,by go_num,by go_num,rfl,hid ⟨_,_,HNc.out h1 h2,HMSd.out.push HU1.out hown3 hgrow3⟩⟩
        case measure=>simp[intOf];omega
     ·obtain rfl:j=nb:=by omega
      have HN:Hid (lo++[la.getD i []]++mrg (la.drop (i+1)) (lb.drop j)=mrg la lb):=hid (by
       have h:=HLo.out;rw[HEb.out j hjn,xe,HDa.out i hin]at h;rw[HEb.out j hjn,xe,List.append_assoc];exact h)
      generalize (la.getD i []).length=m1 at *;go_upto_region 12 with fail
      go_quiet (fail)
      have HMSd:=hid (HMS.out.drewN nq);go_wp2_with (first|(at_builtin;refine wpList_append_lies _ rfl _ _ 23 rfl w2.heap.size 24 iS (.slice none 0 0) 1 24 Tryz.underlying23 hj hy0 hy1 hy2 rfl (by decide) vo _ uo rfl (HMSd.out.own.alloc _) ⟨_,0,none⟩ 1 1 [.slice a1 m1 k1] rfl rfl (qH _ _ _) (fun u hu=>by simp at hu;subst hu;rfl) (by decide) (by unfold maxLen;omega) (by omega) (by have:=HMSd.out.bel.size;simp at this ⊢;omega) _ rfl ?_;intro g3 cp3 w3 hown3 hgrow3 hat3 hlt3)|fail)
      go_roundw
      case rel=>exact⟨i+1,j,_,by omega,by omega,by go_num,rfl,rfl,hid ⟨_,_,HN.out,HMSd.out.push HU1.out hown3 hgrow3⟩⟩
      case measure=>simp[intOf];omega
    ·obtain rfl:i=na:=by omega
     have i1:¬((i:Int) < (i:Int)):=by omega
     by_cases hjn:j < nb
     ·have i2:(j:Int) < (nb:Int):=by omega
      have i4:¬((j:Int)=(nb:Int)):=by omega
      have i5:((j:Int) == (nb:Int))=false:=by simp;omega
      have i6:¬(j=nb):=by omega
      obtain⟨b2,o2,u2,ea,c2,hu2⟩:=HCb.out wr HMS.out.bel j hjn;subst ea;have HU2:=hid hu2;obtain⟨⟨⟨a2,k2,rfl,-⟩,-⟩,-⟩:=hu2
      have HN:Hid (lo++[lb.getD j []]++mrg (la.drop i) (lb.drop (j+1))=mrg la lb):=hid (by
       have h:=HLo.out;rw[HEa.out i hin,xS,HDb.out j hjn]at h;rw[HEa.out i hin,xS,List.append_assoc];exact h)
      have i9:decide ((i:Int) < (i:Int))=false:=by simp
      generalize (lb.getD j []).length=m2 at *;go_upto_region 12 with fail
      go_quiet (fail)
      go_upto_region 15 with fail
      have HMS1:=hid (HMS.out.drewN nq);have d2:(wr.drewN nq).cell? ⟨b2,o2+j,none⟩=some (.slice a2 m2 k2):=c2;generalize wr.drewN nq=W5 at HMS1 d2 ⊢;go_quiet (fail)
      have HMSd:=hid (HMS1.out.drewN nq);go_wp2_with (first|(at_builtin;refine wpList_append_lies _ rfl _ _ 23 rfl w2.heap.size 24 iS (.slice none 0 0) 1 24 Tryz.underlying23 hj hy0 hy1 hy2 rfl (by decide) vo _ uo rfl (HMSd.out.own.alloc _) ⟨_,0,none⟩ 1 1 [.slice a2 m2 k2] rfl rfl (qH _ _ _) (fun u hu=>by simp at hu;subst hu;rfl) (by decide) (by unfold maxLen;omega) (by omega) (by have:=HMSd.out.bel.size;simp at this ⊢;omega) _ rfl ?_;intro g3 cp3 w3 hown3 hgrow3 hat3 hlt3)|fail)
      go_roundw
      case rel=>exact⟨i,j+1,_,by omega,by omega,rfl,by go_num,rfl,hid ⟨_,_,HN.out,HMSd.out.push HU2.out hown3 hgrow3⟩⟩
      case measure=>simp[intOf];omega
     ·obtain rfl:j=nb:=by omega
      have i2:¬((j:Int) < (j:Int)):=by omega
      have HN:Hid (lo=mrg la lb):=hid (by
       have h:=HLo.out;rw[HEa.out i hin,HEb.out j hjn,xS,List.append_nil]at h;exact h)
      have HRS:=hid HMS.out.rs;have HBf:=hid (bt HBw.out HMS.out.bel);have HNw:Hid (∀g,vo.ownBlock=some g->W.heap.size<=g):=hid fun g hg=>bK HBw.out.size (HMS.out.own.lt g hg).1;obtain⟨⟨ao,co,rfl,-⟩,-,-⟩:=HMS.out.rs;clear HMS HLo;go_wp2_with fail
      go_ret;refine⟨_,rfl,⟨uo,?_⟩,Or.inr HNw.out,HBf.out⟩;rw[<-HN.out];exact HRS.out
theorem qD9(h:Below X.drew.heap.size X.drew Y):Bl X Y:=⟨h.os,h.tape,h.output,h.size,h.block⟩
theorem qB1(hk:k=X.heap.size)(h:Below (X.alloc (.cells #[v] t)).heap.size (X.alloc (.cells #[v] t)) Y):∀W,Bl Y W->∀j u,[v][j]?=some u->W.cell? ((⟨k,0,none⟩:Addr).add j)=some u:=fun _ hW=>Qs hk (bt h hW)
theorem Ks(hk:k=X.heap.size)(h:Below (X.alloc (.cells #[.slice none 0 0,.slice none 0 0] 134)).heap.size (X.alloc (.cells #[.slice none 0 0,.slice none 0 0] 134)) Y):BrX Y k (.slice none 0 0) (.slice none 0 0):=by
 subst hk;exact(BrX.new X _ _).below h
theorem grB(h:Bl A X)(ho:X.ownsRow A.heap.size e s v n xs)(hg:X.grownBy Y v.ownBlock):Bl A Y:=h.grown hg h.size fun k hk=>(ho.lt k hk).1
theorem BrX.gr(h:BrX X k x y)(ho:X.ownsRow B e s v n xs)(he:e≠134)(hg:X.grownBy Y v.ownBlock):BrX Y k x y:=(hg.block k h.lt (own_ne ho ⟨_,h⟩ he)).trans h
theorem WiE.late{p:List Int}(h1:X.ownsRow A.heap.size 3 1 (.slice (some ⟨g,0,none⟩) (p.length+1) c) (p.length+1) (p.map (Value.int .i64)++[.int .i64 xv]))(h2:X.ownsRow A.heap.size 137 1 (.slice (some ⟨g',0,none⟩) nT c') nT bs)(h3:Bl A X):
 WiE A p xv nT bs X.heap.size (X.alloc (.cells #[.slice (some ⟨g,0,none⟩) (p.length+1) c,.slice (some ⟨g',0,none⟩) nT c'] 134)) g c g' c':=
 ⟨BrX.new X _ _,by rw[mA];exact h1.alloc _,h2.alloc _,qE h3 _,h3.size⟩
theorem WiE.early{p:List Int}(h1:X.ownsRow A.heap.size 3 1 (.slice (some ⟨g,0,none⟩) (p.length+1) c) (p.length+1) (p.map (Value.int .i64)++[.int .i64 xv]))(h2:X.ownsRow A.heap.size 137 1 (.slice (some ⟨g',0,none⟩) nT c') nT bs)(h3:Bl A X)(h4:BrX X k x y)(h5:A.heap.size<=k):
 WiE A p xv nT bs k ((X.setCell ⟨k,0,none⟩ (.slice (some ⟨g,0,none⟩) (p.length+1) c)).setCell ⟨k,1,none⟩ (.slice (some ⟨g',0,none⟩) nT c')) g c g' c':=
 ⟨h4.set _ _,by rw[mA];exact yS h1 h4 (by decide),yS h2 h4 (by decide),(h3.setCell h5 _).setCell h5 _,h5⟩
theorem Kt(w:World)(B1 B2 bb nT cb cu cc:Nat)(vp vt:Value)(p ts:List Int)(bs:List Value)(xv:Int)(y:Nat->Nat)
 (hp:w.ownsRow B1 3 1 vp p.length (p.map (Value.int .i64))) (hpl:p.length<=1000) (hb:w.ownsRow B2 137 1 (.slice (some ⟨bb,0,none⟩) nT cb) nT bs) (hone:∀u∈bs,u.oneCell'=true) (hT0:0 < nT) (hT:nT<=1000)
 (ht:IS w vt ts) (hn:ts.length<=1000) (hin:∀j,j < ts.length->0<=ts.getD j 0/\ts.getD j 0 < nT)
 (hcu:∀W,Bl w W->∀j,j < ts.length->Cl 191 #[.pointer (some ⟨cu,j*2,none⟩)] W fun e w'=>e=.returned (.pointer (some ⟨y j,0,none⟩))/\∃d,w'=W.drewN d):
 Cl 165 #[.agg #[vp,.slice (some ⟨bb,0,none⟩) nT cb],.int .i64 xv,vt,.slice (some ⟨cu,0,none⟩) ts.length cc] w fun e w'=>∃g c g' c',e=.returned (.agg #[.slice (some ⟨g,0,none⟩) (p.length+1) c,.slice (some ⟨g',0,none⟩) nT c'])/\
  w'.ownsRow w.heap.size 3 1 (.slice (some ⟨g,0,none⟩) (p.length+1) c) (p.length+1) ((p++[xv]).map (Value.int .i64))/\w'.ownsRow w.heap.size 137 1 (.slice (some ⟨g',0,none⟩) nT c') nT (yO bs ts y ts.length)/\Bl w w':=by
 obtain⟨i0,hi,hz0,hz1,hz2⟩:=info_parts Tryz.infoInt;obtain⟨ap,cp,rfl⟩:=xG hp;obtain⟨at',ct,rfl,hc⟩:=ht;obtain⟨n,hnn⟩:∃n,n=ts.length:=⟨_,rfl⟩;rw[<-hnn]at hc hn hin hcu ⊢;clear hnn;obtain⟨W1,hW1⟩:∃W1,W1=(w.alloc (.cells #[.slice ap p.length cp,.slice (some ⟨bb,0,none⟩) nT cb] 134)).alloc (.cells #[.slice none 0 0,.slice none 0 0] 134):=⟨_,rfl⟩;have hB1:Bl w W1:=by rw[hW1];exact((bI _ _).alloc (nR _) _).alloc (by simp) _
 have hs1:W1.heap.size=w.heap.size+2:=by rw[hW1];simp
 have hX4:BrX W1 w.heap.size (.slice ap p.length cp) (.slice (some ⟨bb,0,none⟩) nT cb):=by rw[hW1];exact(BrX.new w _ _).below ((bI _ _).alloc (nR _) _)
 have hX8:BrX W1 (w.heap.size+1) (.slice none 0 0) (.slice none 0 0):=by
  rw[hW1];have:=BrX.new (w.alloc (.cells #[.slice ap p.length cp,.slice (some ⟨bb,0,none⟩) nT cb] 134)) (.slice none 0 0) (.slice none 0 0);rw[World.size_alloc]at this;exact this
 have HX8:=hid hX8;have HS1:=hid hs1;have HB1:=hid hB1;have HSS:Hid (∀W,Bl W1 W->W.cell? ⟨w.heap.size,0,none⟩=some (.slice ap p.length cp)/\W.cell? ⟨w.heap.size,1,none⟩=some (.slice (some ⟨bb,0,none⟩) nT cb)/\Bl W1 W):=hid fun W hW=>⟨(hX4.below hW).c0,(hX4.below hW).c1,hW⟩
 have K1:Hid (∀W,Bl W1 W->Cl 88 #[.slice ap p.length cp] W fun e w'=>∃v,e=.returned v/\w'.ownsRow W1.heap.size 3 1 v p.length (p.map (Value.int .i64))/\Bl W w'/\Bl W1 w'):=hid fun W hW=>
  (kK W _ p (qW (qB (qB hp hB1) hW)) (by omega)).mono fun e w' ⟨v,h1,h2,h3⟩=>⟨v,h1,qF h2 hW.size,h3,bt hW h3⟩
 have K2:Hid (∀W,Bl W1 W->Cl 190 #[.slice (some ⟨bb,0,none⟩) nT cb] W fun e w'=>∃g' c',e=.returned (.slice (some ⟨g',0,none⟩) nT c')/\w'.ownsRow W1.heap.size 137 1 (.slice (some ⟨g',0,none⟩) nT c') nT bs/\Bl W w'/\Bl W1 w'):=hid fun W hW=>
  (YY W B2 bb cb nT bs (qB (qB hb hB1) hW) hT0 (by omega) hone).mono fun e w' ⟨g',c',h1,h2,h3⟩=>⟨g',c',h1,qF h2 hW.size,h3,bt hW h3⟩
 have HC:Hid (∀W,Bl w W->∀j,j < n->∃(b o:Nat),at'=some ⟨b,o,none⟩/\W.cell? ⟨b,o+j,none⟩=some (.int .i64 (ts.getD j 0))):=hid fun W hW j hj=>by
  rcases hc with h0|⟨b,o,rfl,h⟩
  ·omega
  ·exact⟨b,o,rfl,(hW.cell (bL w _ (h j hj))).trans (h j hj)⟩
 have HIN:=hid hin;have HCU:=hid hcu;have HBl:=hid hb.1;clear hc hin hcu hp hb hone hX4 hX8 hB1 hs1;go_enter Tryz.func165,Tryz.ntmps165
 go_upto_region 1 with fail
 rw[<-hW1];clear hW1;go_cut [9] from 12 to 21 (fun v wc=>∃k,v=.pointer (some ⟨k,0,none⟩)/\Hid (∃g c g' c',WiE W1 p xv nT bs k wc g c g' c'))
 case first=>
  first|go_region_held_law (fun W=>W.cell? ⟨w.heap.size,0,none⟩=some (.slice ap p.length cp)/\W.cell? ⟨w.heap.size,1,none⟩=some (.slice (some ⟨bb,0,none⟩) nT cb)/\Bl W1 W)
   (first|(refine HSS.out _ ?_;(repeat(first|(with_reducible exact bI _ _)|(with_reducible exact hq20)|(with_reducible exact hq17)|(with_reducible exact hq14)|(with_reducible refine xQ ?_)|(with_reducible refine qE ?_ _)|(with_reducible refine Below.setCell ?_ (by first|exact nR _|(dsimp only;omega)) _)));done)|fail)
   (first
    |(refine step_append_lies _ (by rfl) _ _ _ (by rfl) W1.heap.size 3 i0 (.int .i64 0) 1 8 Tryz.underlying24 hi hz0 hz1 hz2 rfl (by decide) v14 p.length _ (by rfl) hO14 ⟨W1.heap.size,0,none⟩ 1 1 [.int .i64 xv] (by rfl) (by rfl) (hlit _ (bI _ _)) (fun u hu=>by simp at hu;subst hu;rfl) (by decide) (by unfold maxLen;omega) (by omega) (by first|exact hz14|(simp;omega)) _ rfl ?_;intro g17 c17 w17 hown17 hgrow17 hat17 hlt17;have hq17:=grB (by(repeat(first|(with_reducible exact bI _ _)|(with_reducible exact hq17)|(with_reducible exact hq14)|(with_reducible refine xQ ?_)|(with_reducible refine qE ?_ _)))) hO14 hgrow17;try(have hbx17:=hbx.gr hO14 (by decide) hgrow17))
    |(refine step_append_lies _ (by rfl) _ _ _ (by rfl) W1.heap.size 3 i0 (.int .i64 0) 1 8 Tryz.underlying24 hi hz0 hz1 hz2 rfl (by decide) v14 p.length _ (by rfl) hO14 ⟨W1.heap.size+1,0,none⟩ 1 1 [.int .i64 xv] (by rfl) (by rfl) (hlit _ (bI _ _)) (fun u hu=>by simp at hu;subst hu;rfl) (by decide) (by unfold maxLen;omega) (by omega) (by first|exact hz14|(simp;omega)) _ rfl ?_;intro g17 c17 w17 hown17 hgrow17 hat17 hlt17;have hq17:=grB (by(repeat(first|(with_reducible exact bI _ _)|(with_reducible exact hq17)|(with_reducible exact hq14)|(with_reducible refine xQ ?_)|(with_reducible refine qE ?_ _)))) hO14 hgrow17;try(have hbx17:=hbx.gr hO14 (by decide) hgrow17))
    |(refine step_append_lies _ (by rfl) _ _ _ (by rfl) W1.heap.size 3 i0 (.int .i64 0) 1 8 Tryz.underlying24 hi hz0 hz1 hz2 rfl (by decide) v14 p.length _ (by rfl) (hO14.alloc _) ⟨w14.heap.size,0,none⟩ 1 1 [.int .i64 xv] (by rfl) (by rfl) (qH _ _ _) (fun u hu=>by simp at hu;subst hu;rfl) (by decide) (by unfold maxLen;omega) (by omega) (by first|exact hz14|(simp;omega)) _ rfl ?_;intro g17 c17 w17 hown17 hgrow17 hat17 hlt17;have hq17:=grB (by(repeat(first|(with_reducible exact bI _ _)|(with_reducible exact hq17)|(with_reducible exact hq14)|(with_reducible refine xQ ?_)|(with_reducible refine qE ?_ _)))) (hO14.alloc _) hgrow17;try(have hbx17:=(hbx.below (qE (bI _ _) _)).gr (hO14.alloc _) (by decide) hgrow17))
    |(refine step_append_lies _ (by rfl) _ _ _ (by rfl) W1.heap.size 3 i0 (.int .i64 0) 1 8 Tryz.underlying24 hi hz0 hz1 hz2 rfl (by decide) v14 p.length _ (by rfl) (hO14.alloc _) ⟨W1.heap.size,0,none⟩ 1 1 [.int .i64 xv] (by rfl) (by rfl) (hlit _ (qE (bI _ _) _)) (fun u hu=>by simp at hu;subst hu;rfl) (by decide) (by unfold maxLen;omega) (by omega) (by first|exact hz14|(simp;omega)) _ rfl ?_;intro g17 c17 w17 hown17 hgrow17 hat17 hlt17;have hq17:=grB (by(repeat(first|(with_reducible exact bI _ _)|(with_reducible exact hq17)|(with_reducible exact hq14)|(with_reducible refine xQ ?_)|(with_reducible refine qE ?_ _)))) (hO14.alloc _) hgrow17;try(have hbx17:=(BrX.new w14 _ _).gr (hO14.alloc _) (by decide) hgrow17))
    |(refine step_append_lies _ (by rfl) _ _ _ (by rfl) W1.heap.size 3 i0 (.int .i64 0) 1 8 Tryz.underlying24 hi hz0 hz1 hz2 rfl (by decide) v14 p.length _ (by rfl) ((hO14.alloc _).alloc _) ⟨w14.heap.size,0,none⟩ 1 1 [.int .i64 xv] (by rfl) (by rfl) (Qs rfl (qE (bI _ _) _)) (fun u hu=>by simp at hu;subst hu;rfl) (by decide) (by unfold maxLen;omega) (by omega) (by first|exact hz14|(simp;omega)) _ rfl ?_;intro g17 c17 w17 hown17 hgrow17 hat17 hlt17;have hq17:=grB (by(repeat(first|(with_reducible exact bI _ _)|(with_reducible exact hq17)|(with_reducible exact hq14)|(with_reducible refine xQ ?_)|(with_reducible refine qE ?_ _)))) ((hO14.alloc _).alloc _) hgrow17;try(have hbx17:=(Ks (X:=w14.alloc (.cells #[.int .i64 xv] 3)) (k:=w14.heap.size+1) (by simp) (bI _ _)).gr ((hO14.alloc _).alloc _) (by decide) hgrow17))
    |(refine step_append_lies _ (by rfl) _ _ _ (by rfl) W1.heap.size 3 i0 (.int .i64 0) 1 8 Tryz.underlying24 hi hz0 hz1 hz2 rfl (by decide) v14 p.length _ (by rfl) ((hO14.alloc _).alloc _) ⟨w14.heap.size+1,0,none⟩ 1 1 [.int .i64 xv] (by rfl) (by rfl) (Qs (X:=w14.alloc (.cells #[.slice none 0 0,.slice none 0 0] 134)) (by simp) (bI _ _)) (fun u hu=>by simp at hu;subst hu;rfl) (by decide) (by unfold maxLen;omega) (by omega) (by first|exact hz14|(simp;omega)) _ rfl ?_;intro g17 c17 w17 hown17 hgrow17 hat17 hlt17;have hq17:=grB (by(repeat(first|(with_reducible exact bI _ _)|(with_reducible exact hq17)|(with_reducible exact hq14)|(with_reducible refine xQ ?_)|(with_reducible refine qE ?_ _)))) ((hO14.alloc _).alloc _) hgrow17;try(have hbx17:=((BrX.new w14 _ _).below (qE (bI _ _) _)).gr ((hO14.alloc _).alloc _) (by decide) hgrow17))
    |(go_simp;go_at_call 88;(with_reducible refine(K1.out _ (by(repeat(first|(with_reducible exact bI _ _)|(with_reducible exact hq17)|(with_reducible exact hq14)|(with_reducible refine xQ ?_)|(with_reducible refine qE ?_ _))))).mono ?_);rintro e w14 ⟨v14,rfl,hO14,hB14,hq14⟩;have hz14:=hq14.size;have hb14:=qD9 hB14;clear hB14;(first
     |(have hlit:=qB1 (v:=.int .i64 xv) (t:=3) (X:=W1) (k:=W1.heap.size) rfl (bt (qE (bI _ _) _) hb14);have hbx:=Ks (X:=W1.alloc (.cells #[.int .i64 xv] 3)) (k:=W1.heap.size+1) (by simp) hb14)
     |(have hbx:=Ks (X:=W1) (k:=W1.heap.size) rfl (bt (qE (bI _ _) _) hb14);have hlit:=qB1 (v:=.int .i64 xv) (t:=3) (X:=W1.alloc (.cells #[.slice none 0 0,.slice none 0 0] 134)) (k:=W1.heap.size+1) (by simp) hb14)
     |have hlit:=qB1 (v:=.int .i64 xv) (t:=3) (X:=W1) (k:=W1.heap.size) rfl hb14
     |have hbx:=Ks (X:=W1) (k:=W1.heap.size) rfl hb14
     |skip);clear hb14)
    |(go_simp;go_at_call 190;(with_reducible refine(K2.out _ (by(repeat(first|(with_reducible exact bI _ _)|(with_reducible exact hq17)|(with_reducible exact hq14)|(with_reducible refine xQ ?_)|(with_reducible refine qE ?_ _))))).mono ?_);rintro e w20 ⟨g20,c20,rfl,hO20,hB20,hq20⟩;have hz17:=hq17.size;(first|have hown20:=qB hown17 hB20|have hown20:=qB (hown17.alloc _) hB20);(try(first|have hbx20:=hbx17.below hB20|have hbx20:=(BrX.new w17 _ _).below hB20));(try(have k0:=hbx20.c0;have k1:=hbx20.c1;have f0:=hbx20.free 0;have f1:=hbx20.free 1)))
    |fail)|fail
  all_goals(go_wp2_with fail;go_meet)
  all_goals first
   |exact⟨_,rfl,hid ⟨_,_,_,_,WiE.late hown20 hO20 hq20⟩⟩
   |exact⟨_,rfl,hid ⟨_,_,_,_,WiE.early hown20 hO20 hq20 hbx20 (by first|exact nR _|omega)⟩⟩
 case rest=>
 obtain⟨k9,rfl,HT9⟩:=hcut;obtain⟨g,c,g',c',hE⟩:=HT9.out;have HE:=hid hE;clear HT9 hE K1 K2 HSS;generalize wc=W5 at *;have hU0:yO bs ts y 0=bs:=rfl;have HU0:=hid hU0;have HU1:Hid (∀k,yO bs ts y (k+1)=(yO bs ts y k).set (ts.getD k 0).toNat (.pointer (some ⟨y k,0,none⟩))):=hid fun k=>rfl;clear hU0;have HB5:=hid (bt HB1.out HE.out.bel);have HX85:=hid (HX8.out.below HE.out.bel);have hlow:W1.heap.size<=k9:=HE.out.low;have HLW:=hid (And.intro hlow HS1.out);clear hlow HB1 HX8 HS1;go_wp2_with fail
 go_loopw [24] (fun t wr=>∃(j:Nat),j<=n/\t=.int .i64 j/\Hid (BrX wr k9 (.slice (some ⟨g,0,none⟩) (p.length+1) c) (.slice (some ⟨g',0,none⟩) nT c')/\wr.ownsRow W1.heap.size 3 1 (.slice (some ⟨g,0,none⟩) (p.length+1) c) (p.length+1) ((p++[xv]).map (Value.int .i64))/\wr.ownsRow W1.heap.size 137 1 (.slice (some ⟨g',0,none⟩) nT c') nT (yO bs ts y j)/\Bl w wr/\BrX wr (w.heap.size+1) (.slice none 0 0) (.slice none 0 0))) (fun t _=>n - (intOf t).toNat)
 case atStart=>exact⟨0,nZ _,rfl,hid ⟨HE.out.box,HE.out.op,by rw[HU0.out];exact HE.out.ob,HB5.out,HX85.out⟩⟩
 case round=>
  clear HE HU0 HB5 HX85;obtain⟨j,hjn,rfl,HT⟩:=hrel;obtain⟨hX,hOp,hOb,hB,hX8⟩:=HT.out;have HX:=hid hX;have HOp:=hid hOp;have HOb:=hid hOb;have HB:=hid hB;have HX8:=hid hX8;clear HT hX hOp hOb hB hX8;by_cases hlt:j < n
  ·have i1:(j:Int) < (n:Int):=by omega
   obtain⟨b,o,ea,e1⟩:=HC.out wr HB.out j hlt;subst ea;have h3:=HIN.out j hlt;have HUj:=hid (HU1.out j);obtain⟨t,ht⟩:∃t:Nat,t=(ts.getD j 0).toNat:=⟨_,rfl⟩;have e2:ts.getD j 0=(t:Int):=by omega
   rw[<-ht]at HUj;rw[e2]at e1 h3;have i2:(t:Int) < (nT:Int):=by omega
   clear ht e2 h3;have KB:=hid (fun W (hW:Bl w W)=>HCU.out W hW j hlt);have HBd:Hid (Bl w wr.drew):=hid HB.out.drew;generalize y j=yj at *;have k1:=HX.out.c1;have hgt:k9≠g':=fun e=>own_ne HOb.out ⟨_,HX.out⟩ (by decide) (by rw[e];rfl);have HK:Hid (∀(d:Nat) (v:Value),((wr.drewN d).setCell ⟨g',t,none⟩ v).cell? ⟨k9,1,none⟩=some (.slice (some ⟨g',0,none⟩) nT c')):=hid fun d v=>(bE (w:=wr) (a:=⟨k9,1,none⟩) (bD _ _ _ _ hgt)).trans k1;have ff:∀d,(wr.drewN d).frozen? ⟨g',t,none⟩=false:=fun d=>HOb.out.frozenAt t;have fc:∀d,(wr.drewN d).cell? ⟨g',t,none⟩=(yO bs ts y j)[t]?:=fun d=>HOb.out.cellAt t (by omega)
   obtain⟨ou,hou⟩:∃ou,(yO bs ts y j)[t]?=some ou:=by
    have hl:=HOb.out.1;exact⟨_,gE (by omega)⟩
   rw[hou]at fc;have HKd:Hid (∀d:Nat,(wr.drewN d).cell? ⟨k9,1,none⟩=some (.slice (some ⟨g',0,none⟩) nT c')):=hid fun d=>k1;have HK0:Hid (wr.drew.cell? ⟨k9,1,none⟩=some (.slice (some ⟨g',0,none⟩) nT c')):=hid k1
   have HN:Hid (∀d:Nat,BrX ((wr.drewN d).setCell ⟨g',t,none⟩ (.pointer (some ⟨yj,0,none⟩))) k9 (.slice (some ⟨g,0,none⟩) (p.length+1) c) (.slice (some ⟨g',0,none⟩) nT c')/\((wr.drewN d).setCell ⟨g',t,none⟩ (.pointer (some ⟨yj,0,none⟩))).ownsRow W1.heap.size 3 1 (.slice (some ⟨g,0,none⟩) (p.length+1) c) (p.length+1) ((p++[xv]).map (Value.int .i64))/\((wr.drewN d).setCell ⟨g',t,none⟩ (.pointer (some ⟨yj,0,none⟩))).ownsRow W1.heap.size 137 1 (.slice (some ⟨g',0,none⟩) nT c') nT (yO bs ts y (j+1))/\Bl w ((wr.drewN d).setCell ⟨g',t,none⟩ (.pointer (some ⟨yj,0,none⟩)))/\BrX ((wr.drewN d).setCell ⟨g',t,none⟩ (.pointer (some ⟨yj,0,none⟩))) (w.heap.size+1) (.slice none 0 0) (.slice none 0 0)):=hid fun d=>by
    have hgl:=(HOb.out.lt g' rfl);have h8:w.heap.size+1≠g':=fun e=>own_ne HOb.out ⟨_,HX8.out⟩ (by decide) (by rw[e];rfl);refine⟨(bD _ _ _ _ hgt).trans HX.out,qC (HOp.out:(wr.drewN d).ownsRow _ _ _ _ _ _) fun q hq=>bD _ _ _ _ (fun e=>?_),?_,(below_drewN HB.out d).setCell (by show w.heap.size<=g';have:=HLW.out.2;omega) _,(bD _ _ _ _ h8).trans HX8.out⟩
    ·obtain⟨cur,hc⟩:=qY HOb.out (g:=g') rfl;have e':q=g':=e;exact own_ne HOp.out ⟨cur,hc⟩ (by decide) (by rw[<-e'];exact hq.symm)
    ·rw[HUj.out];exact((HOb.out:(wr.drewN d).ownsRow _ _ _ _ _ _).stored t _).1
   clear HC HIN HCU HU1 HX HOp HOb HX8 hgt k1 hou;generalize wr=wo at *;go_upto_region 5 with fail
   go_region_held_law (fun W=>W.cell? ⟨k9,1,none⟩=some (.slice (some ⟨g',0,none⟩) nT c'))
    (first|(with_reducible exact HK0.out)|(with_reducible exact HKd.out _)|(with_reducible exact HK.out _ _)|fail)
    (first
     |(go_simp;go_at_call 191;(with_reducible refine(KB.out _ HBd.out).mono ?_);rintro e w9 ⟨rfl,d,rfl⟩;have f1:=ff (1+d);have f2:=fc (1+d))
     |fail)
   all_goals(go_wp2_with fail;go_roundw)
   all_goals first
    |exact⟨j+1,by omega,by go_num,hid (HN.out (1+d))⟩
    |(simp[intOf];omega)
  ·obtain rfl:j=n:=by omega
   have i1:¬((j:Int) < (j:Int)):=by omega
   have k0:=HX.out.c0;have k1:=HX.out.c1;have f0:=HX8.out.free 0;have f1:=HX8.out.free 1;have r0:=HX8.out.c0;have r1:=HX8.out.c1;have hne:k9≠w.heap.size+1:=by have:=HLW.out;omega
   have HFp:=hid (yS (u1:=.slice (some ⟨g,0,none⟩) (p.length+1) c) (u2:=.slice (some ⟨g',0,none⟩) nT c') HOp.out HX8.out (by decide));have HFb:=hid (yS (u1:=.slice (some ⟨g,0,none⟩) (p.length+1) c) (u2:=.slice (some ⟨g',0,none⟩) nT c') HOb.out HX8.out (by decide));have hw1:w.heap.size<=W1.heap.size:=by have:=HLW.out.2;omega
   clear HC HIN HCU HU1 HX HOp HOb HX8;go_wp2_with fail
   refine bodyPost_ret (v:=.agg #[.slice (some ⟨g,0,none⟩) (p.length+1) c,.slice (some ⟨g',0,none⟩) nT c']) (by simp[results,Tryz.results165,go_sem,r0,r1]) rfl ?_;exact⟨g,c,g',c',rfl,by have:=qF HFp.out hw1;simpa using this,qF HFb.out hw1,(HB.out.setCell (by show _<=w.heap.size+1;omega) _).setCell (by show _<=w.heap.size+1;omega) _⟩
end Go.Proofs.YtjbpgdpciinlcaaGreat
