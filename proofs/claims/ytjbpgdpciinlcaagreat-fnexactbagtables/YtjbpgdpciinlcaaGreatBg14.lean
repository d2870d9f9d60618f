import Derived.Ground.SlsfProg
import Derived.Lib.SliceRun
import Derived.Shelf.SlGeneric
import Derived.Shelf.SlSortCmp.Whole1
import Derived.Test.YtjbpgdpciinlcaaGreatBg12
set_option maxHeartbeats 40000000
set_option maxRecDepth 1000000
namespace Go.Proofs
open Go.Shelf
def Tryz.sortRows_ren : Go.Shelf.Ren := ⟨fun | 6 => 124 | 15 => 153 | 14 => 152 | 28 => 180 | 29 => 181 | 20 => 172 | 21 => 173 | 22 => 174 | 23 => 175 | 24 => 176 | 25 => 177 | 26 => 178 | 27 => 179 | 46 => 194 | 47 => 195 | 48 => 196 | 49 => 197 | 50 => 198 | 57 => 202 | n => n, fun | 22 => 23 | 24 => 24 | 25 => 92 | 3 => 3 | 39 => 140 | 0 => 0 | 53 => 178 | 55 => 181 | 4 => 4 | 46 => 216 | 45 => 215 | 50 => 171 | 5 => 5 | 9 => 9 | 66 => 230 | 70 => 234 | 76 => 238 | 77 => 239 | n => n, fun | n => n⟩
theorem Tryz.sortRows : Go.Proofs.SlLaysF.n6 Tryz.prog Tryz.sortRows_ren := {
  mixed := by kernel_rfl
  f6 := ⟨Tryz.f124.name, by decide, Tryz.func124.trans (congrArg some (by kernel_rfl))⟩
  f14 := ⟨Tryz.f152.name, by decide, Tryz.func152.trans (congrArg some (by kernel_rfl))⟩
  f15 := Tryz.func153.trans (congrArg some (by kernel_rfl))
  f20 := ⟨Tryz.f172.name, by decide, Tryz.func172.trans (congrArg some (by kernel_rfl))⟩
  f21 := ⟨Tryz.f173.name, by decide, Tryz.func173.trans (congrArg some (by kernel_rfl))⟩
  f22 := ⟨Tryz.f174.name, by decide, Tryz.func174.trans (congrArg some (by kernel_rfl))⟩
  f23 := ⟨Tryz.f175.name, by decide, Tryz.func175.trans (congrArg some (by kernel_rfl))⟩
  f24 := ⟨Tryz.f176.name, by decide, Tryz.func176.trans (congrArg some (by kernel_rfl))⟩
  f25 := ⟨Tryz.f177.name, by decide, Tryz.func177.trans (congrArg some (by kernel_rfl))⟩
  f26 := ⟨Tryz.f178.name, by decide, Tryz.func178.trans (congrArg some (by kernel_rfl))⟩
  f27 := ⟨Tryz.f179.name, by decide, Tryz.func179.trans (congrArg some (by kernel_rfl))⟩
  f28 := Tryz.func180.trans (congrArg some (by kernel_rfl))
  f29 := Tryz.func181.trans (congrArg some (by kernel_rfl))
  f46 := ⟨Tryz.f194.name, by decide, Tryz.func194.trans (congrArg some (by kernel_rfl))⟩
  f47 := Tryz.func195.trans (congrArg some (by kernel_rfl))
  f48 := Tryz.func196.trans (congrArg some (by kernel_rfl))
  f49 := ⟨Tryz.f197.name, by decide, Tryz.func197.trans (congrArg some (by kernel_rfl))⟩
  f50 := ⟨Tryz.f198.name, by decide, Tryz.func198.trans (congrArg some (by kernel_rfl))⟩
  f57 := ⟨Tryz.f202.name, by decide, Tryz.func202.trans (congrArg some (by kernel_rfl))⟩
  t0 := Tryz.underlying0
  a0 := Tryz.isAgg0
  z0 := Tryz.sizeOf0
  v0 := Tryz.zeroValue0
  t3 := Tryz.underlying3
  a3 := Tryz.isAgg3
  z3 := Tryz.sizeOf3
  v3 := Tryz.zeroValue3
  t4 := Tryz.underlying4
  a4 := Tryz.isAgg4
  z4 := Tryz.sizeOf4
  v4 := Tryz.zeroValue4
  t5 := Tryz.underlying5
  a5 := Tryz.isAgg5
  z5 := Tryz.sizeOf5
  v5 := Tryz.zeroValue5
  t9 := Tryz.underlying9
  a9 := Tryz.isAgg9
  z9 := Tryz.sizeOf9
  v9 := Tryz.zeroValue9
  t22 := Tryz.underlying23
  a22 := Tryz.isAgg23
  z22 := Tryz.sizeOf23
  v22 := Tryz.zeroValue23
  a24 := Tryz.isAgg24
  z24 := Tryz.sizeOf24
  t25 := Tryz.underlying92
  a25 := Tryz.isAgg92
  z25 := Tryz.sizeOf92
  v25 := Tryz.zeroValue92
  t39 := Tryz.underlying140
  a39 := Tryz.isAgg140
  z39 := Tryz.sizeOf140
  v39 := Tryz.zeroValue140
  t45 := Tryz.underlying215
  a45 := Tryz.isAgg215
  z45 := Tryz.sizeOf215
  v45 := Tryz.zeroValue215
  t46 := Tryz.underlying216
  a46 := Tryz.isAgg216
  z46 := Tryz.sizeOf216
  v46 := Tryz.zeroValue216
  t50 := Tryz.underlying171
  a50 := Tryz.isAgg171
  z50 := Tryz.sizeOf171
  v50 := Tryz.zeroValue171
  t53 := Tryz.underlying178
  a53 := Tryz.isAgg178
  z53 := Tryz.sizeOf178
  v53 := Tryz.zeroValue178
  t55 := Tryz.underlying181
  a55 := Tryz.isAgg181
  z55 := Tryz.sizeOf181
  v55 := Tryz.zeroValue181
  t66 := Tryz.underlying230
  a66 := Tryz.isAgg230
  z66 := Tryz.sizeOf230
  v66 := Tryz.zeroValue230
  t70 := Tryz.underlying234
  a70 := Tryz.isAgg234
  z70 := Tryz.sizeOf234
  v70 := Tryz.zeroValue234
  t76 := Tryz.underlying238
  a76 := Tryz.isAgg238
  z76 := Tryz.sizeOf238
  v76 := Tryz.zeroValue238
  t77 := Tryz.underlying239
  a77 := Tryz.isAgg239
  z77 := Tryz.sizeOf239
  v77 := Tryz.zeroValue239 }
end Go.Proofs
namespace Go.Proofs.YtjbpgdpciinlcaaGreat
open Go.RowKit
variable {B b c i:Nat}{e:TypeId}{w:World}
theorem qDd{α:Type}(f:α->List Int):Sort.SWO (ltOf fun a b=>qD (f a) (f b)) where
 irrefl x:=by simp[ltOf,zr]
 trans x y z h1 h2:=by
  simp only[ltOf,decide_eq_true_eq]at *;exact xI h1 h2
 ntrans x y z h1 h2:=by
  simp only[ltOf,decide_eq_false_iff_not]at *;intro h3;have e1:=vA (f x) (f y);have e2:=vA (f y) (f z);rcases Int.lt_trichotomy (qD (f y) (f x)) 0 with a|a|a
  ·exact h2 (xI a h3)
  ·rw[<-xh a]at h3;exact h2 h3
  ·omega
section
variable {α:Type} [Inhabited α]
theorem J5(enc:α->Value)(w:World)(blk off m:Nat)(dk:Array α)(os:Array Obj)(hb:b < w.heap.size)(hne:b≠blk):(sortWorld enc w blk off m dk os).heap[b]?=w.heap[b]?:=by
 show(((w.heap.modify blk _)++os)[b]?)=_;rw[Array.getElem?_append_left (by simpa using hb),Array.getElem?_modify,if_neg (Ne.symm hne)]
theorem qEU(enc:α->Value)(w:World)(blk off m:Nat)(dk:Array α)(os:Array Obj){cur:Array Value}{fr:Nat×Nat}(h:w.heap[blk]?=some (.cells cur e fr)):(sortWorld enc w blk off m dk os).heap[blk]?=some (.cells (Sort.putCells enc off dk cur) e fr):=by
 have hb:blk < w.heap.size:=by
  rcases Nat.lt_or_ge blk w.heap.size with h1|h1
  ·exact h1
  ·rw[Array.getElem?_eq_none h1]at h;cases h
 show(((w.heap.modify blk _)++os)[blk]?)=_;rw[Array.getElem?_append_left (by simpa using hb),Array.getElem?_modify,if_pos rfl,h];rfl
theorem qDe(enc:α->Value)(w:World)(blk off m:Nat)(dk:Array α)(os:Array Obj):w.heap.size<=(sortWorld enc w blk off m dk os).heap.size:=by
 show w.heap.size<=((w.heap.modify blk _)++os).size;simp
end
def RowP(w:World)(B:Nat):Type:={ p:Value×List Int // w.ownsRow B 3 1 p.1 p.2.length (p.2.map (Value.int .i64))/\p.2.length<=1099511627776 }
def RowP.enc(p:RowP w B):Value:=p.1.1
def RowP.row(p:RowP w B):List Int:=p.1.2
theorem RowP.one(p:RowP w B):(RowP.enc p).oneCell'=true:=by
 obtain⟨⟨v,l⟩,h,-⟩:=p;show v.oneCell'=true
 obtain⟨a,cap,rfl⟩:∃a cap,v=.slice a l.length cap:=by
  have h':w.ownsRow B 3 1 v l.length (l.map (Value.int .i64)):=h;clear h;rcases h'.2 with ⟨rfl,hn⟩|⟨g,cap,cur,rfl,_⟩
  ·exact⟨none,0,by rw[hn]⟩
  ·exact⟨_,cap,rfl⟩
 rfl
theorem Xn(w:World)(B g cap:Nat)(us:List Value)(ls:List (List Int))(h:RQ w B (.slice (some ⟨g,0,none⟩) ls.length cap) us ls)(hM:∀i,i < ls.length->(ls.getD i []).length<=1099511627776)(hn:ls.length<=1000000):
 Cl 124 #[.slice (some ⟨g,0,none⟩) ls.length cap,.func (.func 92) #[] #[]] w fun e w'=>e=.returned (.tuple #[])/\∃us' ls',RQ w' B (.slice (some ⟨g,0,none⟩) ls.length cap) us' ls'/\ls'.length=ls.length/\(∀z,z∈ls'↔z∈ls)/\(ls'.Pairwise fun a b=>¬qD b a < 0)/\Below B w w':=by
 have inh:Inhabited (RowP w B):=⟨⟨(.slice none 0 0,[]),oN _ _ _ _,by simp⟩⟩
 obtain⟨f,hf⟩:∃f:Fin ls.length->RowP w B,∀i,RowP.enc (f i)=us.getD i undef/\RowP.row (f i)=ls.getD i []:=⟨fun i=>⟨(us.getD i undef,ls.getD i []),h.each i i.2,hM i i.2⟩,fun i=>⟨rfl,rfl⟩⟩;obtain⟨d,hd⟩:∃d:Array (RowP w B),d=Array.ofFn f:=⟨_,rfl⟩;have hsz:d.size=ls.length:=by rw[hd];exact Array.size_ofFn
 have hget:∀j,j < ls.length->RowP.enc d[j]! =us.getD j undef/\RowP.row d[j]! =ls.getD j []:=fun j hj=>by
  rw[getElem!_pos d j (by omega)];subst hd;rw[Array.getElem_ofFn];exact hf ⟨j,hj⟩
 obtain⟨hB,cur,hcur,hcap,hmax,hcs,htk⟩:B<=g/\∃cur,w.heap[g]?=some (.cells cur 24 (0,0))/\ls.length<=cap/\cap<=maxLen/\cur.size=cap*1/\cur.toList.take (ls.length*1)=us:=by
  rcases h.own.2 with ⟨e,-⟩|⟨g',cap',cur,e,hb',hc,h1,h2,h3,h4⟩
  ·cases e
  ·simp only[Value.slice.injEq,Option.some.injEq,Addr.mk.injEq,true_and,and_true]at e;obtain⟨rfl,rfl⟩:=e;exact⟨hb',cur,hc,h1,h2,h3,h4⟩
 have hlt:g < w.heap.size:=by
  rcases Nat.lt_or_ge g w.heap.size with h1|h1
  ·exact h1
  ·rw[Array.getElem?_eq_none h1]at hcur;cases hcur
 have hH:Sort.Holds RowP.enc w g 0 d:=fun j hj=>by
  rw[hsz]at hj;obtain⟨g',cap',e,-,hc⟩:=h.get hj;simp only[Value.slice.injEq,Option.some.injEq,Addr.mk.injEq,and_true,true_and]at e;obtain⟨rfl,rfl⟩:=e;refine⟨by rw[Nat.zero_add,(hget j hj).1];exact hc,?_⟩;unfold World.frozen?;rw[hcur];simp
 have far:∀(m:Nat) (os:Array Obj) (dk:Array (RowP w B)) (p:RowP w B),(sortWorld RowP.enc w g 0 m dk os).ownsRow B 3 1 (RowP.enc p) (RowP.row p).length ((RowP.row p).map (Value.int .i64)):=fun m os dk p=>
  qC p.2.1 fun q hq=>J5 _ _ _ _ _ _ _ (p.2.1.lt q hq).2 (by
   rintro rfl;exact own_ne p.2.1 ⟨_,hcur⟩ (by decide) hq.symm)
 have hcmp:CmpReads Tryz.prog 92 #[] RowP.enc (fun x y=>qD (RowP.row x) (RowP.row y)) g 0 d.size w:=fun m os dk _ x y=>by
  refine(ym (sortWorld RowP.enc w g 0 m dk os) (RowP.enc x) (RowP.enc y) (RowP.row x) (RowP.row y) (qW (far m os dk x)) (qW (far m os dk y)) x.2.2 y.2.2).mono ?_;rintro e w' ⟨rfl,rfl⟩;exact⟨rfl,0,rfl⟩
 have eg:∀args w,(callFunc 92 args).run Tryz.prog w=.ok (.enter 92 args) w:=enters_of Tryz.func92 (by kernel_rfl) rfl;have hcon:=Any.slices_SortFunc Tryz.sortRows RowP.enc (fun p=>RowP.one p) (fun x y=>qD (RowP.row x) (RowP.row y)) (qDd RowP.row) 92 #[] g 0 cap d w eg hcmp.lays hH hlt (by omega);rw[hsz]at hcon;refine hcon.mono ?_;rintro e w' ⟨rfl,d',m,os,⟨p1,-,p3⟩,hs,rfl⟩;have hsz':d'.size=ls.length:=p1.trans hsz
 have hperm:d'.toList.Perm d.toList:=by
  have e1:d'.extract 0 ls.length=d':=by rw[<-hsz'];exact Array.extract_size ..
  have e2:d.extract 0 ls.length=d:=by rw[<-hsz];exact Array.extract_size ..
  rw[e1,e2]at p3;exact p3
 have hrows:d.toList.map RowP.row=ls:=by
  refine List.ext_getElem? fun i=>?_;by_cases hi:i < ls.length
  ·have:=(hget i hi).2;rw[getElem!_pos d i (by omega)]at this;rw[bJ,Array.getElem?_toList,Array.getElem?_eq_getElem (by omega),gE hi,Option.map_some,this,gD,gE hi];rfl
  ·rw[gN (by simp;omega),gN (by omega)]
 have hvals:d.toList.map RowP.enc=us:=by
  refine List.ext_getElem? fun i=>?_;have hl:=h.len;by_cases hi:i < ls.length
  ·have:=(hget i hi).1;rw[getElem!_pos d i (by omega)]at this;rw[bJ,Array.getElem?_toList,Array.getElem?_eq_getElem (by omega),gE (by omega),Option.map_some,this,gD,gE (by omega)];rfl
  ·rw[gN (by simp;omega),gN (by omega)]
 have hl':(d'.toList.map RowP.row).length=ls.length:=by simp[hsz']
 have hpair:d'.toList.Pairwise fun p q=>∀g,(RowP.enc p).ownBlock=some g->(RowP.enc q).ownBlock≠some g:=by
  refine(hperm.symm.pairwise_iff fun {p q} h1 g h2 h3=>h1 g h3 h2).1 ?_;rw[List.pairwise_iff_getElem];intro i j hi hj hij g h1;simp only[Array.length_toList]at hi hj;have hi':=(hget i (by omega)).1;have hj':=(hget j (by omega)).1;rw[getElem!_pos d i (by omega)]at hi';rw[getElem!_pos d j (by omega)]at hj';rw[Array.getElem_toList,hi']at h1;rw[Array.getElem_toList,hj'];exact h.ap i j hij (by omega) g h1
 refine⟨rfl,d'.toList.map RowP.enc,d'.toList.map RowP.row,⟨?_,by simp,fun i hi=>?_,fun i j hij hj g=>?_⟩,hl',fun z=>?_,?_,?_⟩
 ·rw[hl'];refine⟨by simp[hsz'],Or.inr ⟨g,cap,_,rfl,hB,qEU _ _ _ _ _ _ _ hcur,hcap,hmax,?_,?_⟩⟩
  ·unfold Sort.putCells;simp[hcs]
  ·refine List.ext_getElem? fun i=>?_;rw[Nat.mul_one];by_cases hi:i < ls.length
   ·rw[List.getElem?_take_of_lt hi,Array.getElem?_toList];unfold Sort.putCells;rw[Array.getElem?_mapIdx,Array.getElem?_eq_getElem (by omega),Option.map_some,if_pos ⟨nZ _,by omega⟩,bJ,Array.getElem?_toList,Array.getElem?_eq_getElem (by omega),Option.map_some,Nat.sub_zero,getElem!_pos d' i (by omega)]
   ·rw[gN (by rw[bQ];omega),gN (by simp;omega)]
 ·rw[hl']at hi;have e1:(d'.toList.map RowP.enc).getD i undef=RowP.enc d'[i]:=by rw[gD,bJ,Array.getElem?_toList,Array.getElem?_eq_getElem (by omega)];rfl
  have e2:(d'.toList.map RowP.row).getD i []=RowP.row d'[i]:=by rw[gD,bJ,Array.getElem?_toList,Array.getElem?_eq_getElem (by omega)];rfl
  rw[e1,e2];exact far _ _ _ _
 ·rw[hl']at hj;have e1:∀i (hi:i < ls.length),(d'.toList.map RowP.enc).getD i undef=RowP.enc d'[i]:=fun i hi=>by rw[gD,bJ,Array.getElem?_toList,Array.getElem?_eq_getElem (by omega)];rfl
  rw[e1 i (by omega),e1 j hj];have:=(List.pairwise_iff_getElem.1 hpair) i j (by simp;omega) (by simp;omega) hij g;rw[Array.getElem_toList,Array.getElem_toList]at this;exact this
 ·rw[(hperm.map RowP.row).mem_iff,hrows]
 ·rw[List.pairwise_map,List.pairwise_iff_getElem];intro i j hi hj hij;simp only[Array.length_toList]at hi hj;have:=hs i j (nZ _) hij (by omega);rw[getElem!_pos d' j (by omega),getElem!_pos d' i (by omega)]at this;rw[Array.getElem_toList,Array.getElem_toList];simpa[ltOf]using this
 ·exact⟨rfl,rfl,rfl,qDe _ _ _ _ _ _ _,fun b hb=>J5 _ _ _ _ _ _ _ (by omega) (by omega)⟩
theorem Vb{la lb:List Int}(hl:la.length=lb.length)(h:∀i,i < la.length->la.getD i 0=lb.getD i 0):la=lb:=by
 refine List.ext_getElem hl fun i h1 h2=>?_;have:=h i h1;rw[gD,gE h1,gD,gE h2]at this;exact this
theorem kX(w:World)(va vb:Value)(la lb:List Int)(ha:IS w va la)(hb:IS w vb lb)(hl:la.length<=1099511627776)(hl2:lb.length<=1099511627776):
 Cl 102 #[va,vb] w fun e w'=>e=.returned (.bool (decide (la=lb)))/\∃q,w'=w.drewN q:=by
 obtain⟨a,cap,rfl,hc⟩:=ha;obtain⟨a',cap',rfl,hc'⟩:=hb;by_cases hlen:la.length=lb.length
 ·have HF:Hid (∀j,j < la.length->¬la.getD j 0=lb.getD j 0->decide (la=lb)=false):=hid fun j _ e=>by
   rw[decide_eq_false_iff_not];rintro rfl;exact e rfl
  have HT:Hid ((∀j,j < la.length->la.getD j 0=lb.getD j 0)->decide (la=lb)=true):=hid fun h=>by rw[dE];exact Vb hlen h
  generalize decide (la=lb)=res at *;rw[<-hlen]at hc' hl2 ⊢;obtain⟨n,hn⟩:∃n,n=la.length:=⟨_,rfl⟩;rw[<-hn]at hc hc' hl HF HT ⊢;have HC:=hid hc;have HC':=hid hc';clear hc hc' hn hlen hl2;go_enter Tryz.func102,Tryz.ntmps102
  go_wp2_with fail
  go_loopw [13] (fun t wr=>∃j:Nat,j<=n/\t=.int .i64 j/\Hid (∃k,wr=w.drewN k)/\Hid (∀i,i < j->la.getD i 0=lb.getD i 0)) (fun t _=>n - (intOf t).toNat)
  case atStart=>exact⟨0,nZ _,rfl,hid ⟨0,rfl⟩,hid (fun i hi=>by omega)⟩
  case round=>
   obtain⟨j,hj,rfl,hB,hok⟩:=hrel;by_cases hjn:j < n
   ·have i1:(j:Int) < (n:Int):=by omega
    rcases HC.out with h0|⟨b,o,rfl,hcell⟩
    ·omega
    rcases HC'.out with h0|⟨b',o',rfl,hcell'⟩
    ·omega
    have c1:wr.cell? ⟨b,o+j,none⟩=some (.int .i64 (la.getD j 0)):=by obtain⟨k,rfl⟩:=hB.out;exact hcell j hjn
    have c2:wr.cell? ⟨b',o'+j,none⟩=some (.int .i64 (lb.getD j 0)):=by obtain⟨k,rfl⟩:=hB.out;exact hcell' j hjn
    have fin:=HF.out j hjn
    have nxt:la.getD j 0=lb.getD j 0->Hid (∀i,i < j+1->la.getD i 0=lb.getD i 0):=fun e=>hid fun i hi=>by
     by_cases e2:i=j
     ·rw[e2];exact e
     ·exact hok.out i (by omega)
    clear hcell hcell' hok;generalize la.getD j 0=x at *;generalize lb.getD j 0=y at *;by_cases hxy:x=y
    ·have hf:=nxt hxy;subst hxy;clear fin nxt;have e0:(x != x)=false:=by simp
     go_wp2_with fail
     go_quiet (fail)
     go_wp2;go_roundw
     case rel=>exact⟨j+1,by omega,by go_num,hid (zM _ hB.out),hf⟩
     case measure=>simp[intOf];omega
    ·have hf:=hid (fin hxy);clear fin nxt;have e0:(x != y)=true:=by simp[hxy]
     go_wp2_with fail
     go_quiet (fail)
     go_wp2;go_ret;exact⟨qG (by rw[hf.out]),zM _ hB.out⟩
   ·obtain rfl:j=n:=by omega
    have hf:=hid (HT.out hok.out);have i1:¬((j:Int) < (j:Int)):=by omega
    go_wp2;go_ret;exact⟨qG (by rw[hf.out]),hB.out⟩
 ·have hf:decide (la=lb)=false:=by rw[decide_eq_false_iff_not];rintro rfl;exact hlen rfl
  rw[hf];have i1:¬((la.length:Int)=(lb.length:Int)):=by omega
  have i2:((la.length:Int) != (lb.length:Int))=true:=by simp;omega
  clear hc hc' hf;generalize la.length=m at *;generalize lb.length=m' at *;go_enter Tryz.func102,Tryz.ntmps102
  go_wp2;go_ret;exact⟨rfl,0,rfl⟩
def Ap'(u v:Value):Prop:=∀g,u.ownBlock=some g->v.ownBlock≠some g
structure Cst(w wr:World)(B g cap:Nat)(us:List Value)(ls:List (List Int))(k j:Nat)(uo:List Value):Prop where
 os:wr.os=w.os
 tape:wr.tape=w.tape
 output:wr.output=w.output
 size:wr.heap.size=w.heap.size
 far:∀b,b≠g->wr.heap[b]?=w.heap[b]?
 typ:∃cur,wr.heap[g]?=some (.cells cur 24 (0,0))/\cur.size=cap
 len:uo.length=k
 lk:(cpt (ls.take j)).length=k
 kj:k < j
 jn:j<=ls.length
 head:∀p,p < k->wr.cell? ⟨g,p,none⟩=some (uo.getD p undef)
 tail:∀p,j<=p+1->p < ls.length->wr.cell? ⟨g,p,none⟩=some (us.getD p undef)
 each:∀p,p < k->w.ownsRow B 3 1 (uo.getD p undef) ((cpt (ls.take j)).getD p []).length (((cpt (ls.take j)).getD p []).map (Value.int .i64))
 ap:∀p q,p < q->q < k->Ap' (uo.getD p undef) (uo.getD q undef)
 apt:∀p q,p < k->j<=q->q < ls.length->Ap' (uo.getD p undef) (us.getD q undef)
section
variable {w wr:World} {B g cap k j:Nat} {us uo:List Value} {ls:List (List Int)}
theorem Cst.drewN(h:Cst w wr B g cap us ls k j uo)(m:Nat):Cst w (wr.drewN m) B g cap us ls k j uo:=⟨h.os,h.tape,h.output,h.size,h.far,h.typ,h.len,h.lk,h.kj,h.jn,h.head,h.tail,h.each,h.ap,h.apt⟩
theorem Cst.skip(h:Cst w wr B g cap us ls k j uo)(hj:j < ls.length)(e:ls.getD (j - 1) []=ls.getD j []):Cst w wr B g cap us ls k (j+1) uo:=by
 have hkj:=h.kj;obtain⟨i,rfl⟩:∃i,j=i+1:=⟨j - 1,by omega⟩;have hc:cpt (ls.take (i+1+1))=cpt (ls.take (i+1)):=Jp hj (by simpa using e);exact⟨h.os,h.tape,h.output,h.size,h.far,h.typ,h.len,by rw[hc];exact h.lk,by omega,hj,h.head,fun p hp hn=>h.tail p (by omega) hn,by rw[hc];exact h.each,h.ap,fun p q hp hq hn=>h.apt p q hp (by omega) hn⟩
theorem xf{α:Type}{l:List α}{x d:α}(h:i < l.length):(l++[x]).getD i d=l.getD i d:=by
 rw[gD,aL h,<-gD]
theorem xa{α:Type}{l:List α}{x d:α}(h:i=l.length):(l++[x]).getD i d=x:=by
 rw[gD,bN (by omega),show i - l.length=0 by omega];rfl
theorem Cst.keep(h:Cst w wr B g cap us ls k j uo)(hR:RQ w B (.slice (some ⟨g,0,none⟩) ls.length cap) us ls)(hj:j < ls.length)(e:¬ls.getD (j - 1) []=ls.getD j []):Cst w (wr.setCell ⟨g,k,none⟩ (us.getD j undef)) B g cap us ls (k+1) (j+1) (uo++[us.getD j undef]):=by
 have hkj:=h.kj;have hl:=h.len;have hlk:=h.lk;obtain⟨i,rfl⟩:∃i,j=i+1:=⟨j - 1,by omega⟩;have hc:cpt (ls.take (i+1+1))=cpt (ls.take (i+1))++[ls.getD (i+1) []]:=VY hj (by simpa using e);have hsame:=h.tail k;refine⟨h.os,h.tape,h.output,by rw[World.size_setCell];exact h.size,fun b hb=>(bD _ _ _ _ hb).trans (h.far b hb),?_,by simp[hl],by rw[hc];simp[hlk],by omega,hj,fun p hp=>?_,fun p hp hn=>?_,fun p hp=>?_,fun p q hpq hq=>?_,fun p q hp hq hn=>?_⟩
 ·obtain⟨cur,h1,h2⟩:=h.typ;exact⟨_,bG _ _ _ _ _ _ h1,by simp[h2]⟩
 ·by_cases e1:p=k
  ·subst e1;rw[xa hl.symm];obtain⟨cur,h1,h2⟩:=h.typ
   have hex:∃u,wr.cell? ⟨g,p,none⟩=some u:=by
    rw[cell_of_row _ _ _ _ _ _ h1]
    have hcp:ls.length<=cap:=by
     rcases hR.own.2 with ⟨e,-⟩|⟨g',cap',cur',e,-,-,hcc,-⟩
     ·cases e
     ·simp only[Value.slice.injEq]at e;obtain⟨-,-,rfl⟩:=e;exact hcc
    exact⟨_,Array.getElem?_eq_getElem (by omega)⟩
   obtain⟨u,hu⟩:=hex;exact bF _ _ _ hu
  ·rw[xf (by omega),bC _ _ _ _ (by intro e2;simp only[Addr.mk.injEq]at e2;omega)];exact h.head p (by omega)
 ·rw[bC _ _ _ _ (by intro e2;simp only[Addr.mk.injEq]at e2;omega)];exact h.tail p (by omega) hn
 ·rw[hc];by_cases e1:p=k
  ·subst e1;rw[xa hl.symm,xa hlk.symm];exact hR.each _ hj
  ·rw[xf (by omega),xf (by omega)];exact h.each p (by omega)
 ·rw[xf (by omega)];by_cases e1:q=k
  ·subst e1;rw[xa hl.symm];exact h.apt p _ (by omega) (nR _) hj
  ·rw[xf (by omega)];exact h.ap p q hpq (by omega)
 ·by_cases e1:p=k
  ·subst e1;rw[xa hl.symm];exact fun g' h1=>hR.ap _ q (by omega) hn g' h1
  ·rw[xf (by omega)];exact h.apt p q (by omega) (by omega) hn
theorem Cst.start(hR:RQ w B (.slice (some ⟨g,0,none⟩) ls.length cap) us ls){K:Nat}(hK:0 < K)(hKn:K < ls.length)(hne:∀i,i+1 < K->¬ls.getD i []=ls.getD (i+1) [])(e:ls.getD (K - 1) []=ls.getD K [])(m:Nat):Cst w (w.drewN m) B g cap us ls K (K+1) (us.take K):=by
 obtain⟨i,rfl⟩:∃i,K=i+1:=⟨K - 1,by omega⟩;have hl:=hR.len;have hc:cpt (ls.take (i+1+1))=ls.take (i+1):=(Jp hKn (by simpa using e)).trans (XP i (by omega) fun q hq=>hne q (by omega))
 have hcell:∀p,p < ls.length->w.cell? ⟨g,p,none⟩=some (us.getD p undef):=fun p hp=>by
  obtain⟨g',cap',e1,-,h1⟩:=hR.get hp;simp only[Value.slice.injEq,Option.some.injEq,Addr.mk.injEq,and_true,true_and]at e1;obtain⟨rfl,-⟩:=e1;exact h1
 refine⟨rfl,rfl,rfl,rfl,fun _ _=>rfl,?_,by rw[bQ];omega,by rw[hc,bQ];omega,by omega,by omega,fun p hp=>by rw[getD_take hp];exact hcell p (by omega),fun p _ hn=>hcell p hn,fun p hp=>?_,fun p q hpq hq=>?_,fun p q hp hq hn=>?_⟩
 ·rcases hR.own.2 with ⟨e1,-⟩|⟨g',cap',cur,e1,-,h1,-,-,h2,-⟩
  ·cases e1
  ·simp only[Value.slice.injEq,Option.some.injEq,Addr.mk.injEq,and_true,true_and]at e1;obtain⟨rfl,rfl⟩:=e1;exact⟨cur,h1,by omega⟩
 ·rw[hc,getD_take hp,getD_take hp];exact hR.each p (by omega)
 ·rw[getD_take (by omega),getD_take hq];exact fun g' h1=>hR.ap p q hpq (by omega) g' h1
 ·rw[getD_take hp];exact fun g' h1=>hR.ap p q (by omega) hn g' h1
end
theorem Y9:∀(vs:List Value) (o:Nat) (W:World) (m:Nat),(∃cur,W.heap[c]?=some (.cells cur e (0,0))/\cur.size=m)->∃cur,(W.setCells c o vs).heap[c]?=some (.cells cur e (0,0))/\cur.size=m
 |[],_,_,_,h=>h
 |_::r,o,_,m,h=>Y9 r (o+1) _ m (by
  obtain⟨cur,h1,h2⟩:=h;exact⟨_,bG _ _ _ _ _ _ h1,by simp[h2]⟩)
theorem VB(hb:b≠c):∀(vs:List Value) (o:Nat) (W:World),(W.setCells c o vs).heap[b]?=W.heap[b]?
 |[],_,_=>rfl
 |_::r,o,_=>(VB hb r (o+1) _).trans (bD _ _ _ _ hb)
theorem Xx:∀(vs:List Value) (o:Nat) (W:World),(W.setCells c o vs).heap.size=W.heap.size
 |[],_,_=>rfl
 |v::r,o,W=>(Xx r (o+1) (W.setCell ⟨c,o,none⟩ v)).trans (World.size_setCell _ _ _)
theorem VC:∀(vs:List Value) (o:Nat) (W:World),(W.setCells c o vs).os=W.os/\(W.setCells c o vs).tape=W.tape/\(W.setCells c o vs).output=W.output
 |[],_,_=>⟨rfl,rfl,rfl⟩
 |v::r,o,W=>VC r (o+1) (W.setCell ⟨c,o,none⟩ v)
theorem Cst.fin{wr:World}{g cap k:Nat}{us uo:List Value}{ls:List (List Int)}(h:Cst w wr B g cap us ls k ls.length uo)(hR:RQ w B (.slice (some ⟨g,0,none⟩) ls.length cap) us ls)(vs:List Value):
 RQ (wr.setCells g k vs) B (.slice (some ⟨g,0,none⟩) k cap) uo (cpt ls)/\Below B w (wr.setCells g k vs):=by
 obtain⟨hB,hcap,hmax⟩:B<=g/\ls.length<=cap/\cap<=maxLen:=by
  rcases hR.own.2 with ⟨e,-⟩|⟨g',cap',cur,e,hb',hc,h1,h2,-⟩
  ·cases e
  ·simp only[Value.slice.injEq,Option.some.injEq,Addr.mk.injEq,true_and,and_true]at e;obtain⟨rfl,rfl⟩:=e;exact⟨hb',h1,h2⟩
 have hl:=h.len;have hlk:=h.lk;have hkj:=h.kj;have heach:=h.each;rw[tL]at hlk heach;obtain⟨cur,hcur,hcs⟩:=Y9 vs k wr cap h.typ
 have hcell:∀p,p < k->cur[p]?=some (uo.getD p undef):=fun p hp=>by
  have h1:=h.head p hp;rw[<-World.cell?_setCells_out g vs k wr ⟨g,p,none⟩ (fun _ _=>Or.inl hp),cell_of_row _ _ _ _ _ _ hcur]at h1;exact h1
 have hfar:∀b,b≠g->(wr.setCells g k vs).heap[b]?=w.heap[b]?:=fun b hb=>(VB hb vs k wr).trans (h.far b hb);have hty:∃cur,w.heap[g]?=some (.cells cur 24 (0,0)):=qY hR.own rfl;refine⟨⟨?_,by omega,fun i hi=>?_,fun i j hij hj=>h.ap i j hij (by omega)⟩,?_⟩
 ·rw[hlk];refine⟨by omega,Or.inr ⟨g,cap,cur,rfl,hB,hcur,by omega,hmax,by omega,?_⟩⟩;refine List.ext_getElem? fun p=>?_;rw[Nat.mul_one];by_cases hp:p < k
  ·rw[List.getElem?_take_of_lt hp,Array.getElem?_toList,hcell p hp,gD,gE (by omega)];rfl
  ·rw[gN (by rw[bQ];omega),gN (by omega)]
 ·exact qC (heach i (by omega)) fun q hq=>hfar q (by
   rintro rfl;exact own_ne (heach i (by omega)) hty (by decide) hq.symm)
 ·obtain⟨e1,e2,e3⟩:=VC (c:=g) vs k wr;exact⟨e1.trans h.os,e2.trans h.tape,e3.trans h.output,by rw[Xx,h.size];exact nR _,fun b hb=>hfar b (by omega)⟩
theorem QR(w:World)(B g cap:Nat)(us:List Value)(ls:List (List Int))(hR:RQ w B (.slice (some ⟨g,0,none⟩) ls.length cap) us ls)(hM:∀i,(ls.getD i []).length<=1099511627776)(hn:ls.length<=1000000):
 Cl 125 #[.slice (some ⟨g,0,none⟩) ls.length cap,.func (.func 102) #[] #[]] w fun e w'=>∃v uo,e=.returned v/\RQ w' B v uo (cpt ls)/\Below B w w':=by
 have HR:=hid hR;have eg:∀args w,(callFunc 102 args).run Tryz.prog w=.ok (.enter 102 args) w:=enters_of Tryz.func102 (by kernel_rfl) rfl;have HDr:Hid (∀q,RQ (w.drewN q) B (.slice (some ⟨g,0,none⟩) ls.length cap) us ls/\Below B w (w.drewN q)):=hid fun q=>⟨⟨hR.own,hR.len,hR.each,hR.ap⟩,⟨rfl,rfl,rfl,nR _,fun _ _=>rfl⟩⟩;by_cases h2:ls.length < 2
 ·have hc:cpt ls=ls:=by
   match ls,h2 with
   |[],_=>rfl
   |[x],_=>rfl
  have i1:(ls.length:Int) < 2:=by omega
  rw[hc];clear hR hM;go_enter Tryz.func125,Tryz.ntmps125
  go_wp2;go_ret;exact⟨_,us,rfl,HR.out,bI _ _⟩
 ·obtain⟨hcap⟩:ls.length<=cap/\True:=by
   rcases hR.own.2 with ⟨e,-⟩|⟨g',cap',cur,e,hb',hc,h1,-⟩
   ·cases e
   ·simp only[Value.slice.injEq]at e;obtain⟨-,-,rfl⟩:=e;exact⟨h1,trivial⟩
  have HCell:Hid (∀p,p < ls.length->w.cell? ⟨g,p,none⟩=some (us.getD p undef)):=hid fun p hp=>by
   obtain⟨g',cap',e1,-,h1⟩:=hR.get hp;simp only[Value.slice.injEq,Option.some.injEq,Addr.mk.injEq,and_true,true_and]at e1;obtain⟨rfl,-⟩:=e1;exact h1
  have HSl:Hid (∀p,p < ls.length->∃a c,us.getD p undef=.slice a (ls.getD p []).length c):=hid fun p hp=>by
   rcases (hR.each p hp).2 with ⟨e,hn⟩|⟨g,cap,cur,e,_⟩
   ·exact⟨none,0,by rw[e,hn]⟩
   ·exact⟨_,cap,e⟩
  have KQ:Hid (∀(W:World) (p q:Nat),(∀b,b≠g->W.heap[b]?=w.heap[b]?)->p < ls.length->q < ls.length->∀m,Cl 102 #[us.getD p undef,us.getD q undef] (W.drewN m) fun e w'=>e=.returned (.bool (decide (ls.getD p []=ls.getD q [])))/\∃r,w'=(W.drewN m).drewN r):=hid fun W p q hW hp hq m=>by
   have hty:∃cur,w.heap[g]?=some (.cells cur 24 (0,0)):=qY hR.own rfl
   have mv:∀i,i < ls.length->IS (W.drewN m) (us.getD i undef) (ls.getD i []):=fun i hi=>qW (w:=W.drewN m) (B:=B) (qC (w':=W.drewN m) (hR.each i hi) fun b hb=>hW b (by
    rintro rfl;exact own_ne (hR.each i hi) hty (by decide) hb.symm))
   exact kX (W.drewN m) _ _ _ _ (mv p hp) (mv q hq) (hM p) (hM q)
  have HAll:Hid ((∀i,i+1 < ls.length->¬ls.getD i []=ls.getD (i+1) [])->cpt ls=ls):=hid fun h=>by
   have:=XP (ls:=ls) (ls.length - 1) (by omega) (fun i hi=>h i (by omega));rw[show ls.length - 1+1=ls.length by omega,tL]at this;exact this
  have HSt:Hid (∀K m,0 < K->K < ls.length->(∀i,i+1 < K->¬ls.getD i []=ls.getD (i+1) [])->ls.getD (K - 1) []=ls.getD K []->Cst w (w.drewN m) B g cap us ls K (K+1) (us.take K)):=hid fun K m h1 h3 h4 h5=>Cst.start hR h1 h3 h4 h5 m;clear hR hM;have q2:¬((ls.length:Int) < 2):=by omega
  obtain⟨n,hn'⟩:∃n,n=ls.length:=⟨_,rfl⟩;have HN:=hid hn';rw[<-hn']at HCell HSl KQ HAll HSt HDr hn hcap h2 q2 ⊢;clear hn';go_enter Tryz.func125,Tryz.ntmps125
  go_wp2_with fail
  go_loopw [5] (fun t wr=>∃k:Nat,1<=k/\k<=n/\t=.int .i64 k/\Hid (∃q,wr=w.drewN q)/\Hid (∀i,i+1 < k->¬ls.getD i []=ls.getD (i+1) [])) (fun t _=>n - (intOf t).toNat)
  case atStart=>exact⟨1,nR _,by omega,rfl,hid ⟨0,rfl⟩,hid (fun i hi=>by omega)⟩
  case round=>
   obtain⟨k,hk1,hk,rfl,hQ,hne⟩:=hrel;by_cases hkn:k < n
   ·have i1:(k:Int) < (n:Int):=by omega
    have i2:((k:Int) - 1).toNat=k - 1:=by omega
    have c1:wr.cell? ⟨g,k,none⟩=some (us.getD k undef):=by obtain⟨q,rfl⟩:=hQ.out;exact HCell.out k hkn
    have c2:wr.cell? ⟨g,k - 1,none⟩=some (us.getD (k - 1) undef):=by obtain⟨q,rfl⟩:=hQ.out;exact HCell.out (k - 1) (by omega)
    have KQ1:Hid (∀m,Cl 102 #[us.getD k undef,us.getD (k - 1) undef] (wr.drewN m) fun e w'=>e=.returned (.bool (decide (ls.getD k []=ls.getD (k - 1) [])))/\∃r,w'=(wr.drewN m).drewN r):=hid fun m=>by
     obtain⟨q,rfl⟩:=hQ.out;exact KQ.out (w.drewN q) k (k - 1) (fun _ _=>rfl) hkn (by omega) m
    obtain⟨a1,k1,e1⟩:=HSl.out k hkn;obtain⟨a2,k2,e2⟩:=HSl.out (k - 1) (by omega);rw[e1]at c1 KQ1;rw[e2]at c2 KQ1;have i3:¬((k:Int) - 1 < 0):=by omega
    have i4:(k:Int) - 1 < (n:Int):=by omega
    have i5:(0:Int)<=(k:Int) - 1:=by omega
    by_cases hd:ls.getD k []=ls.getD (k - 1) []
    ·rw[decide_eq_true hd]at KQ1;generalize (ls.getD k []).length=m1 at *;generalize (ls.getD (k - 1) []).length=m2 at *;go_upto_region 6 with fail
     go_quiet (first|(go_at_call 102;exact Calls.quiet_of (KQ1.out _)))
     have HC0:Hid (Cst w (wr.drewN nq) B g cap us ls k (k+1) (us.take k)):=hid (by
      obtain⟨q,rfl⟩:=hQ.out;rw[World.drewN_drewN];exact HSt.out k (q+nq) (by omega) hkn hne.out hd.symm)
     clear c1 c2 KQ1 e1 e2 hQ hne hd HSt HAll HDr HCell i2 i3 i4 i5;generalize wr.drewN nq=W5 at HC0 ⊢;have q5:¬cap=k:=by omega
     have q6:k<=cap:=by omega
     go_wp2_with fail
     go_loopw [5,7] (fun t5 t7 wr=>∃kk k2:Nat,1<=k2/\k+k2<=n/\t5=.int .i64 kk/\t7=.int .i64 k2/\Hid (∃uo,Cst w wr B g cap us ls kk (k+k2) uo)) (fun _ t7 _=>n - (intOf t7).toNat)
     case atStart=>exact⟨k,1,nR _,by omega,rfl,rfl,hid ⟨_,HC0.out⟩⟩
     case round=>
      clear HC0;obtain⟨kk,k2,hk2,hkk2,rfl,rfl,HT⟩:=hrel;obtain⟨uo,hC⟩:=HT.out;have HC:=hid hC;have hkj:=hC.kj;clear HT hC
      have HEx:Hid (∃u,wr.cell? ⟨g,kk,none⟩=some u):=hid (by
       obtain⟨cur,h1,h3⟩:=HC.out.typ;rw[cell_of_row _ _ _ _ _ _ h1];exact⟨_,Array.getElem?_eq_getElem (by omega)⟩)
      have f1:∀p,wr.frozen? ⟨g,p,none⟩=false:=fun p=>by
       obtain⟨cur,h1,-⟩:=HC.out.typ;unfold World.frozen?;rw[h1];simp
      by_cases hlt:k+k2 < n
      ·have j1:(k2:Int) < ((n - k:Nat):Int):=by omega
       have j2:((k2:Int) - 1).toNat=k2 - 1:=by omega
       have j3:¬((k2:Int) - 1 < 0):=by omega
       have j4:(k2:Int) - 1 < ((n - k:Nat):Int):=by omega
       have j5:(0:Int)<=(k2:Int) - 1:=by omega
       have j6:(kk:Int) < (n:Int):=by omega
       have d1:wr.cell? ⟨g,k+k2,none⟩=some (us.getD (k+k2) undef):=HC.out.tail (k+k2) (by omega) (by rw[<-HN.out];omega);have d2:wr.cell? ⟨g,k+(k2 - 1),none⟩=some (us.getD (k+(k2 - 1)) undef):=HC.out.tail (k+(k2 - 1)) (by omega) (by rw[<-HN.out];omega);have KQ1:=hid (KQ.out wr (k+k2) (k+(k2 - 1)) HC.out.far hlt (by omega));obtain⟨a3,k3,e1⟩:=HSl.out (k+k2) hlt;obtain⟨a4,k4,e2⟩:=HSl.out (k+(k2 - 1)) (by omega);have HE1:=hid e1;rw[e1]at d1 KQ1;rw[e2]at d2 KQ1;clear e1 e2;have ej:k+k2 - 1=k+(k2 - 1):=by omega
       by_cases hd:ls.getD (k+k2) []=ls.getD (k+(k2 - 1)) []
       ·rw[decide_eq_true hd]at KQ1;have HNx:=hid (HC.out.skip (by rw[<-HN.out];exact hlt) (by rw[ej];exact hd.symm));generalize (ls.getD (k+k2) []).length=m3 at *;generalize (ls.getD (k+(k2 - 1)) []).length=m4 at *;clear ej hd;go_upto_region 11 with fail
        go_quiet (first|(go_at_call 102;exact Calls.quiet_of (KQ1.out _)))
        have HNy:=hid (HNx.out.drewN nq);go_wp2_with fail
        go_roundw
        case rel=>exact⟨kk,k2+1,by omega,by omega,rfl,by go_num,hid ⟨_,HNy.out⟩⟩
        case measure=>simp[intOf];omega
       ·rw[decide_eq_false hd]at KQ1;have HNx:Hid (∀q,Cst w ((wr.drewN q).setCell ⟨g,kk,none⟩ (us.getD (k+k2) undef)) B g cap us ls (kk+1) (k+k2+1) (uo++[us.getD (k+k2) undef])):=hid fun q=>(HC.out.drewN q).keep HR.out (by rw[<-HN.out];exact hlt) (by rw[ej];exact fun e=>hd e.symm);rw[HE1.out]at HNx;obtain⟨u9,d3⟩:=HEx.out;have f3:=f1 kk;generalize (ls.getD (k+k2) []).length=m3 at *;generalize (ls.getD (k+(k2 - 1)) []).length=m4 at *;clear ej hd f1;go_upto_region 11 with fail
        go_quiet (first|(go_at_call 102;exact Calls.quiet_of (KQ1.out _)))
        have HNy:=hid (HNx.out nq);go_wp2_with fail
        go_roundw
        case rel=>exact⟨kk+1,k2+1,by omega,by omega,by go_num,by go_num,hid ⟨_,HNy.out⟩⟩
        case measure=>simp[intOf];omega
      ·have j1:¬((k2:Int) < ((n - k:Nat):Int)):=by omega
       obtain rfl:k2=n - k:=by omega
       have HF:Hid (RQ (wr.setCells g kk (List.replicate (n - kk) (.slice none 0 0))) B (.slice (some ⟨g,0,none⟩) kk cap) uo (cpt ls)/\Below B w (wr.setCells g kk (List.replicate (n - kk) (.slice none 0 0)))):=hid (by
        have h:=HC.out;rw[show k+(n - k)=ls.length by rw[<-HN.out];omega]at h;exact h.fin HR.out _)
       have hclr:∀ty,(Builtin.clear_ #[23] ty #[.slice (some ⟨g,kk,none⟩) (n - kk) (cap - kk)]).run Tryz.prog wr=.ok (.tuple #[]) (wr.setCells g kk (List.replicate (n - kk) (.slice none 0 0))):=fun ty=>
        Lib.run_clear_slice wr 23 24 ty (.slice none 0 0) Tryz.underlying23 (fun _=>by kernel_rfl) rfl rfl g kk (n - kk) (cap - kk) (by omega) (fun j hj=>by
         obtain⟨cur,h1,h3⟩:=HC.out.typ;rw[cell_of_row _ _ _ _ _ _ h1,Array.getElem?_eq_getElem (by omega)];rfl) (fun j _=>f1 _)
       have q7:¬cap=kk:=by omega
       have q8:kk<=cap:=by omega
       have q9:kk<=n:=by omega
       clear HC HEx f1;go_wp2_with fail
       go_ret;exact⟨_,rfl,⟨uo,HF.out.1⟩,HF.out.2⟩
    ·rw[decide_eq_false hd]at KQ1
     have hN:Hid (∀i,i+1 < k+1->¬ls.getD i []=ls.getD (i+1) []):=hid fun i hi=>by
      by_cases e:i+1 < k
      ·exact hne.out i e
      ·obtain rfl:k=i+1:=by omega
       simpa using fun e=>hd e.symm
     generalize (ls.getD k []).length=m1 at *;generalize (ls.getD (k - 1) []).length=m2 at *;clear hd;go_upto_region 6 with fail
     go_quiet (first|(go_at_call 102;exact Calls.quiet_of (KQ1.out _)))
     go_wp2_with fail
     go_roundw
     case rel=>exact⟨k+1,by omega,by omega,by go_num,hid (zM _ hQ.out),hN⟩
     case measure=>simp[intOf];omega
   ·obtain rfl:k=n:=by omega
    have i1:¬((k:Int) < (k:Int)):=by omega
    have HF:Hid (∃q,wr=w.drewN q/\RQ (w.drewN q) B (.slice (some ⟨g,0,none⟩) k cap) us (cpt ls)/\Below B w (w.drewN q)):=hid (by
     obtain⟨q,e⟩:=hQ.out;exact⟨q,e,by rw[HAll.out hne.out];exact(HDr.out q).1,(HDr.out q).2⟩)
    go_wp2_with fail
    go_ret;obtain⟨q,rfl,h1,h3⟩:=HF.out;exact⟨_,rfl,⟨us,h1⟩,h3⟩
def ze(rows:List (List Int))(places:List Int):List (List Int):=rows.map fun r=>atP r places
theorem qCW(rows:List (List Int))(places:List Int):(ze rows places).length=rows.length:=by simp[ze]
theorem qBN{rows:List (List Int)}{places:List Int}{j:Nat}(hj:j < rows.length):ze (rows.take (j+1)) places=ze (rows.take j) places++[atP (rows.getD j []) places]:=by
 unfold ze;rw[tA,gE hj,gD,gE hj,mA];rfl
theorem kq(w:World)(vr vp:Value)(rows:List (List Int))(places:List Int)(hr:ISS w vr rows)(hp:IS w vp places)(hn:rows.length<=1000000)(hlp:places.length<=1000)(hin:∀r∈rows,∀p∈places,0<=p/\p < r.length):
 Cl 101 #[vr,vp] w fun e w'=>∃v uo,e=.returned v/\RQ w' w.heap.size v uo (srt (ze rows places))/\Bl w w':=by
 obtain⟨iS,hj,hy0,hy1,hy2⟩:=info_parts Tryz.infoIS;obtain⟨ar,cr,rfl,hc⟩:=hr
 have HC:Hid (∀W,Bl w W->∀j,j < rows.length->∃(b o:Nat) (u:Value),ar=some ⟨b,o,none⟩/\W.cell? ⟨b,o+j,none⟩=some u/\IS W u (rows.getD j [])):=hid fun W hW j hj=>by
  rcases hc with h0|⟨b,o,rfl,h⟩
  ·omega
  ·obtain⟨u,h1,h2⟩:=h j hj;exact⟨b,o,u,rfl,(hW.cell (bL w _ h1)).trans h1,h2.below hW⟩
 have KV:Hid (∀W u j,Bl w W->j < rows.length->IS W u (rows.getD j [])->Cl 60 #[u,vp] W fun e w'=>∃v,e=.returned v/\w'.ownsRow W.heap.size 3 1 v (atP (rows.getD j []) places).length ((atP (rows.getD j []) places).map (Value.int .i64))/\Bl W w'):=hid fun W u j hW hj hu=>
  jK W u vp _ places hu (hp.below hW) hlp (hin _ (by rw[gD,gE hj];exact gM _))
 have HP:Hid (∀j,j < rows.length->ze (rows.take (j+1)) places=ze (rows.take j) places++[atP (rows.getD j []) places]):=hid fun j hj=>qBN hj;have HPl:Hid (∀j,j<=rows.length->(ze (rows.take j) places).length=j):=hid fun j hj=>by rw[qCW,bQ];omega
 have HPn:Hid (ze (rows.take rows.length) places=ze rows places):=hid (by rw[tL]);have HP0:Hid (ze (rows.take 0) places=[]):=hid rfl
 have HM:Hid (∀i,((ze rows places).getD i []).length<=1099511627776):=hid fun i=>by
  unfold ze;rw[gD,bJ];cases h:rows[i]? with
  |none=>simp
  |some r=>show(atP r places).length<=_;rw[J1];omega
 obtain⟨ap,cp,rfl,-⟩:=hp;clear hc hin;obtain⟨n,hn'⟩:∃n,n=rows.length:=⟨_,rfl⟩;rw[<-hn']at HC KV HP HPl HPn hn ⊢;clear hn';generalize places.length=np at *;go_enter Tryz.func101,Tryz.ntmps101
 go_wp2_with (at_make;refine wpList_make_own _ rfl _ _ 23 rfl w.heap.size 24 iS (.slice none 0 0) 1 Tryz.underlying23 hj hy0 hy1 _ _ _ n rfl rfl rfl ?b2 ?b3 (nR _) ?_)
 case b2=>rw[hy2];omega
 case b3=>unfold maxLen;omega
 intro w0 hown0 hgrow0;have HS0:Hid (RQ w0 w.heap.size (.slice (some ⟨w.heap.size,0,none⟩) 0 n) [] []/\Bl w w0):=hid ⟨⟨hown0,rfl,fun i hi=>by simp at hi,fun i j _ hj=>by simp at hj⟩,(bI _ _).grown hgrow0 (nR _) (fun j hj=>by cases hj)⟩;clear hgrow0 hown0;go_wp2_with fail
 go_loopw [5,13] (fun u t wr=>∃(j g cap:Nat),j<=n/\t=.int .i64 j/\u=.slice (some ⟨g,0,none⟩) j cap/\Hid (∃uo,RQ wr w.heap.size (.slice (some ⟨g,0,none⟩) j cap) uo (ze (rows.take j) places)/\Bl w wr)) (fun _ t _=>n - (intOf t).toNat)
 case atStart=>exact⟨0,w.heap.size,n,nZ _,rfl,rfl,hid ⟨[],by rw[HP0.out];exact HS0.out.1,HS0.out.2⟩⟩
 case round=>
  clear HS0 HP0;obtain⟨j,g,cap,hjn,rfl,rfl,HT⟩:=hrel;obtain⟨uo,hQ,hB⟩:=HT.out;have HQ:=hid hQ;have HB:=hid hB;clear HT hQ hB;by_cases hlt:j < n
  ·have i1:(j:Int) < (n:Int):=by omega
   obtain⟨b,o,u,ea,c1,hu⟩:=HC.out wr HB.out j hlt;subst ea;have KV1:=hid (KV.out wr u j HB.out hlt hu);have HPj:=hid (HP.out j hlt);have hlj:=HPl.out j hjn;obtain⟨au,cu,rfl,-⟩:=hu;generalize (rows.getD j []).length=lr at *;generalize atP (rows.getD j []) places=pr at *;go_wp2_with fail
   refine KV1.out.mono ?_;rintro e w2 ⟨v2,rfl,hv2,hb2⟩;have HQ2:=hid (HQ.out.below hb2);have HB2:=hid (bt HB.out hb2);have HV2:=hid (qF hv2 HB.out.size)
   have HAp:Hid (∀i,i < (ze (rows.take j) places).length->∀g,(uo.getD i undef).ownBlock=some g->v2.ownBlock≠some g):=hid fun i hi g h1 h2=>by
    have a1:=((HQ.out.each i hi).lt g h1).2;have a2:=(hv2.lt g h2).1;omega
   obtain⟨a2,k2,e2⟩:∃a c,v2=.slice a pr.length c:=by
    rcases hv2.2 with ⟨e,hn⟩|⟨g,cap,cur,e,_⟩
    ·exact⟨none,0,by rw[e,hn]⟩
    ·exact⟨_,cap,e⟩
   subst e2;have hs2:=HB2.out.size;clear hv2 hb2 KV1 c1 HQ HB;have ho2:w2.ownsRow w.heap.size 24 1 (.slice (some ⟨g,0,none⟩) j cap) j uo:=by have:=HQ2.out.own;rw[hlj]at this;exact this
   have HO2:=hid ho2;clear ho2;go_wp2_with (first|(at_builtin;refine wpList_append_lies _ rfl _ _ 23 rfl w.heap.size 24 iS (.slice none 0 0) 1 24 Tryz.underlying23 hj hy0 hy1 hy2 rfl (by decide) (.slice (some ⟨g,0,none⟩) j cap) _ uo rfl (HO2.out.alloc _) ⟨_,0,none⟩ 1 1 [.slice a2 pr.length k2] rfl rfl (qH _ _ _) (fun u hu=>by simp at hu;subst hu;rfl) (by decide) (by unfold maxLen;omega) (by omega) (by simp;omega) _ rfl ?_;intro g3 cp3 w3 hown3 hgrow3 hat3 hlt3)|fail)
   have HN:Hid (∃uo',RQ w3 w.heap.size (.slice (some ⟨g3,0,none⟩) (j+1) cp3) uo' (ze (rows.take (j+1)) places)/\Bl w w3):=hid ⟨_,by rw[HPj.out];exact HQ2.out.step HV2.out HAp.out (by rw[hlj];exact hown3) hgrow3,(HB2.out.alloc hs2 _).grown hgrow3 (by simp;omega) (fun q hq=>(HO2.out.lt q hq).1)⟩;clear hown3 hgrow3 hat3 hlt3;go_roundw
   case rel=>exact⟨j+1,g3,cp3,by omega,by go_num,rfl,HN⟩
   case measure=>simp[intOf];omega
  ·obtain rfl:j=n:=by omega
   have i1:¬((j:Int) < (j:Int)):=by omega
   have hlj:=HPl.out j (nR _);rw[HPn.out]at HQ hlj;have KS:=hid (Xn wr w.heap.size g cap uo (ze rows places) (by rw[hlj];exact HQ.out) (fun i _=>HM.out i) (by omega));rw[hlj]at KS;go_wp2_with fail
   refine KS.out.mono ?_;rintro e w2 ⟨rfl,us',ls',hQ2,hl2,hm2,hs2,hb2⟩;have HB2:Hid (Bl w w2):=hid (HB.out.trans hb2)
   have hM2:∀i,(ls'.getD i []).length<=1099511627776:=fun i=>by
    rw[gD];cases h:ls'[i]? with
    |none=>simp
    |some r=>
     obtain⟨q,hq,e⟩:=gO ((hm2 r).1 (List.mem_of_getElem? h));have:=HM.out q;rw[gD,gE hq,e]at this;exact this
   have KC:=hid (QR w2 w.heap.size g cap us' ls' (by rw[hl2];exact hQ2) hM2 (by rw[hl2];omega));have hs3:ls'.Pairwise fun a b=>¬qD b a < 0:=hs2.imp fun h=>by omega
   rw[hl2,qDf hs3 hm2]at KC;clear KS hQ2 hb2 hs2 hs3 hm2 hM2 hl2;go_wp2_with fail
   refine KC.out.mono ?_;rintro e w3 ⟨v3,uo3,rfl,hQ3,hb3⟩;have HF:Hid (RQ w3 w.heap.size v3 uo3 (srt (ze rows places))/\Bl w w3):=hid ⟨hQ3,HB2.out.trans hb3⟩;clear hQ3 hb3;go_wp2_with fail
   go_ret;exact⟨_,uo3,rfl,HF.out.1,HF.out.2⟩
end Go.Proofs.YtjbpgdpciinlcaaGreat
