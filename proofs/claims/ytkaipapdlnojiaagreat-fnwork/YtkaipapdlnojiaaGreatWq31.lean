import Derived.Ground.SlsfProg
import Derived.Lib.SliceRun
import Derived.Shelf.SlGeneric
import Derived.Shelf.SlSortCmp.Whole1
import Derived.Test.YtkaipapdlnojiaaGreatWq26
set_option maxHeartbeats 40000000
set_option maxRecDepth 1000000
namespace Go.Proofs
open Go.Shelf
def Tryz.sortRows_ren : Go.Shelf.Ren := ⟨λ| 6 => 127 | 15 => 122 | 14 => 149 | 28 => 146 | 29 => 147 | 20 => 158 | 21 => 159 | 22 => 160 | 23 => 161 | 24 => 162 | 25 => 163 | 26 => 164 | 27 => 165 | 46 => 167 | 47 => 154 | 48 => 155 | 49 => 168 | 50 => 169 | 57 => 170 | n => n, λ| 22 => 24 | 24 => 25 | 25 => 137 | 3 => 3 | 39 => 170 | 0 => 0 | 53 => 194 | 55 => 196 | 4 => 4 | 46 => 188 | 45 => 187 | 50 => 153 | 5 => 5 | 9 => 9 | 66 => 201 | 70 => 205 | 76 => 212 | 77 => 213 | n => n, λ| n => n⟩
theorem Tryz.sortRows : Go.Proofs.SlLaysF.n6 Tryz.prog Tryz.sortRows_ren := {
  mixed := by kernel_rfl
  f6 := ⟨Tryz.f127.name, by decide, Tryz.func127.trans (congrArg some (by kernel_rfl))⟩
  f14 := ⟨Tryz.f149.name, by decide, Tryz.func149.trans (congrArg some (by kernel_rfl))⟩
  f15 := Tryz.func122.trans (congrArg some (by kernel_rfl))
  f20 := ⟨Tryz.f158.name, by decide, Tryz.func158.trans (congrArg some (by kernel_rfl))⟩
  f21 := ⟨Tryz.f159.name, by decide, Tryz.func159.trans (congrArg some (by kernel_rfl))⟩
  f22 := ⟨Tryz.f160.name, by decide, Tryz.func160.trans (congrArg some (by kernel_rfl))⟩
  f23 := ⟨Tryz.f161.name, by decide, Tryz.func161.trans (congrArg some (by kernel_rfl))⟩
  f24 := ⟨Tryz.f162.name, by decide, Tryz.func162.trans (congrArg some (by kernel_rfl))⟩
  f25 := ⟨Tryz.f163.name, by decide, Tryz.func163.trans (congrArg some (by kernel_rfl))⟩
  f26 := ⟨Tryz.f164.name, by decide, Tryz.func164.trans (congrArg some (by kernel_rfl))⟩
  f27 := ⟨Tryz.f165.name, by decide, Tryz.func165.trans (congrArg some (by kernel_rfl))⟩
  f28 := Tryz.func146.trans (congrArg some (by kernel_rfl))
  f29 := Tryz.func147.trans (congrArg some (by kernel_rfl))
  f46 := ⟨Tryz.f167.name, by decide, Tryz.func167.trans (congrArg some (by kernel_rfl))⟩
  f47 := Tryz.func154.trans (congrArg some (by kernel_rfl))
  f48 := Tryz.func155.trans (congrArg some (by kernel_rfl))
  f49 := ⟨Tryz.f168.name, by decide, Tryz.func168.trans (congrArg some (by kernel_rfl))⟩
  f50 := ⟨Tryz.f169.name, by decide, Tryz.func169.trans (congrArg some (by kernel_rfl))⟩
  f57 := ⟨Tryz.f170.name, by decide, Tryz.func170.trans (congrArg some (by kernel_rfl))⟩
  t0 := Tryz.underlying0
  a0 := Tryz.isAgg0
  z0 := Tryz.sizeOf0
  v0 := Tryz.zeroValue0
  t3 := Tryz.underlying3
  a3 := Tryz.isAgg3
  z3 := Tryz.sizeOf3
  v3 := Tryz.zeroValue3
  t4 := Tryz.underlying4
  a4 := Tryz.isAgg4
  z4 := Tryz.sizeOf4
  v4 := Tryz.zeroValue4
  t5 := Tryz.underlying5
  a5 := Tryz.isAgg5
  z5 := Tryz.sizeOf5
  v5 := Tryz.zeroValue5
  t9 := Tryz.underlying9
  a9 := Tryz.isAgg9
  z9 := Tryz.sizeOf9
  v9 := Tryz.zeroValue9
  t22 := Tryz.underlying24
  a22 := Tryz.isAgg24
  z22 := Tryz.sizeOf24
  v22 := Tryz.zeroValue24
  a24 := Tryz.isAgg25
  z24 := Tryz.sizeOf25
  t25 := Tryz.underlying137
  a25 := Tryz.isAgg137
  z25 := Tryz.sizeOf137
  v25 := Tryz.zeroValue137
  t39 := Tryz.underlying170
  a39 := Tryz.isAgg170
  z39 := Tryz.sizeOf170
  v39 := Tryz.zeroValue170
  t45 := Tryz.underlying187
  a45 := Tryz.isAgg187
  z45 := Tryz.sizeOf187
  v45 := Tryz.zeroValue187
  t46 := Tryz.underlying188
  a46 := Tryz.isAgg188
  z46 := Tryz.sizeOf188
  v46 := Tryz.zeroValue188
  t50 := Tryz.underlying153
  a50 := Tryz.isAgg153
  z50 := Tryz.sizeOf153
  v50 := Tryz.zeroValue153
  t53 := Tryz.underlying194
  a53 := Tryz.isAgg194
  z53 := Tryz.sizeOf194
  v53 := Tryz.zeroValue194
  t55 := Tryz.underlying196
  a55 := Tryz.isAgg196
  z55 := Tryz.sizeOf196
  v55 := Tryz.zeroValue196
  t66 := Tryz.underlying201
  a66 := Tryz.isAgg201
  z66 := Tryz.sizeOf201
  v66 := Tryz.zeroValue201
  t70 := Tryz.underlying205
  a70 := Tryz.isAgg205
  z70 := Tryz.sizeOf205
  v70 := Tryz.zeroValue205
  t76 := Tryz.underlying212
  a76 := Tryz.isAgg212
  z76 := Tryz.sizeOf212
  v76 := Tryz.zeroValue212
  t77 := Tryz.underlying213
  a77 := Tryz.isAgg213
  z77 := Tryz.sizeOf213
  v77 := Tryz.zeroValue213 }
end Go.Proofs
namespace Go.Proofs.YtkaipapdlnojiaaGreat
open Go.RowKit
variable {B b c i:Nat}{e:TypeId}{w:World}
theorem qEz{α:Type}(f:α->List Int):Sort.SWO (ltOf λa b=>cmpL (f a) (f b)) where
 irrefl x:=by simp[ltOf,zp]
 trans x y z h1 h2:=by
  simp only[ltOf,decide_eq_true_eq]at *;exact zY h1 h2
 ntrans x y z h1 h2:=by
  simp only[ltOf,decide_eq_false_iff_not]at *;intro I;have K:=yV (f x) (f y);have M:=yV (f y) (f z);rcases Int.lt_trichotomy (cmpL (f y) (f x)) 0 with a|a|a
  ·exact h2 (zY a I)
  ·rw[<-cmpL_eq a]at I;exact h2 I
  ·omega
section
variable {α:Type} [Inhabited α]
theorem qAK(enc:α->Value)(w:World)(blk off m:Nat)(K:Array α)(os:Array Obj)(hb:b < w.heap.size)(I:b≠blk):(sortWorld enc w blk off m K os).heap[b]?=w.heap[b]?:=by
 show(((w.heap.modify blk _)++os)[b]?)=_;rw[Array.getElem?_append_left (by simpa using hb),Array.getElem?_modify,if_neg (Ne.symm I)]
theorem qFy(enc:α->Value)(w:World)(blk off m:Nat)(K:Array α)(os:Array Obj){cur:Array Value}{fr:Nat×Nat}(h:w.heap[blk]?=some (.cells cur e fr)):(sortWorld enc w blk off m K os).heap[blk]?=some (.cells (Sort.putCells enc off K cur) e fr):=by
 have hb:blk < w.heap.size:=by
  rcases Nat.lt_or_ge blk w.heap.size with I|I
  ·exact I
  ·rw[Array.getElem?_eq_none I]at h;cases h
 show(((w.heap.modify blk _)++os)[blk]?)=_;rw[Array.getElem?_append_left (by simpa using hb),Array.getElem?_modify,if_pos rfl,h];rfl
theorem qE0(enc:α->Value)(w:World)(blk off m:Nat)(I:Array α)(os:Array Obj):w.heap.size<=(sortWorld enc w blk off m I os).heap.size:=by
 show w.heap.size<=((w.heap.modify blk _)++os).size;simp
end
def RowP(w:World)(B:Nat):Type:={ p:Value×List Int // w.ownsRow B 3 1 p.1 p.2.length (p.2.map (Value.int .i64))/\p.2.length<=1099511627776 }
def RowP.enc(p:RowP w B):Value:=p.1.1
def RowP.row(p:RowP w B):List Int:=p.1.2
theorem RowP.one(p:RowP w B):(RowP.enc p).oneCell'=true:=by
 obtain⟨⟨v,l⟩,h,-⟩:=p;show v.oneCell'=true
 obtain⟨a,cap,rfl⟩:∃a cap,v=.slice a l.length cap:=by
  have I:w.ownsRow B 3 1 v l.length (l.map (Value.int .i64)):=h;clear h;rcases I.2 with ⟨rfl,K⟩|⟨g,cap,cur,rfl,_⟩
  ·exact⟨none,0,by rw[K]⟩
  ·exact⟨_,cap,rfl⟩
 rfl
theorem YD(w:World)(B g cap:Nat)(us:List Value)(ls:List (List Int))(h:RQ w B (.slice (some ⟨g,0,none⟩) ls.length cap) us ls)(hM:∀i,i < ls.length->(ls.getD i []).length<=1099511627776)(hn:ls.length<=1000000):
 Cl 127 #[.slice (some ⟨g,0,none⟩) ls.length cap,.func (.func 119) #[] #[]] w λe w'=>e=.returned (.tuple #[])/\∃c9 a3,RQ w' B (.slice (some ⟨g,0,none⟩) ls.length cap) c9 a3/\a3.length=ls.length/\(∀z,z∈a3↔z∈ls)/\(a3.Pairwise λa b=>¬cmpL b a < 0)/\Below B w w':=by
 have inh:Inhabited (RowP w B):=⟨⟨(.slice none 0 0,[]),bG _ _ _ _,Ss⟩⟩
 obtain⟨f,hf⟩:∃f:Fin ls.length->RowP w B,∀i,RowP.enc (f i)=us.getD i undef/\RowP.row (f i)=ls.getD i []:=⟨λi=>⟨(us.getD i undef,ls.getD i []),h.each i i.2,hM i i.2⟩,λi=>⟨rfl,rfl⟩⟩;obtain⟨d,hd⟩:∃d:Array (RowP w B),d=Array.ofFn f:=⟨_,rfl⟩;have a4:d.size=ls.length:=by rw[hd];exact Array.size_ofFn
 have I:∀j,j < ls.length->RowP.enc d[j]! =us.getD j undef/\RowP.row d[j]! =ls.getD j []:=λj O=>by
  rw[getElem!_pos d j Oo];subst hd;rw[Array.getElem_ofFn];exact hf ⟨j,O⟩
 obtain⟨hB,cur,K,a9,b0,d0,d9⟩:B<=g/\∃cur,w.heap[g]?=some (.cells cur 25 (0,0))/\ls.length<=cap/\cap<=maxLen/\cur.size=cap*1/\cur.toList.take (ls.length*1)=us:=by
  rcases h.own.2 with ⟨e,-⟩|⟨g',b7,cur,e,d6,hc,h1,h2,h3,h4⟩
  ·cases e
  ·simp only[Value.slice.injEq,Option.some.injEq,Addr.mk.injEq,true_and,and_true]at e;obtain⟨rfl,rfl⟩:=e;exact⟨d6,cur,hc,h1,h2,h3,h4⟩
 have d7:g < w.heap.size:=by
  rcases Nat.lt_or_ge g w.heap.size with h1|h1
  ·exact h1
  ·rw[Array.getElem?_eq_none h1]at K;cases K
 have hH:Sort.Holds RowP.enc w g 0 d:=λj O=>by
  rw[a4]at O;obtain⟨g',b7,e,-,hc⟩:=h.get O;simp only[Value.slice.injEq,Option.some.injEq,Addr.mk.injEq,and_true,true_and]at e;obtain⟨rfl,rfl⟩:=e;refine⟨by rw[Nat.zero_add,(I j O).1];exact hc,?_⟩;unfold World.frozen?;rw[K];simp
 have far:∀(m:Nat) (os:Array Obj) (dk:Array (RowP w B)) (p:RowP w B),(sortWorld RowP.enc w g 0 m dk os).ownsRow B 3 1 (RowP.enc p) (RowP.row p).length ((RowP.row p).map (Value.int .i64)):=λm os dk p=>
  qA p.2.1 λq hq=>qAK _ _ _ _ _ _ _ (p.2.1.lt q hq).2 (by
   rintro rfl;exact own_ne p.2.1 ⟨_,K⟩ Dd hq.symm)
 have b9:CmpReads Tryz.prog 119 #[] RowP.enc (λx y=>cmpL (RowP.row x) (RowP.row y)) g 0 d.size w:=λm os dk _ x y=>by
  refine(yr (sortWorld RowP.enc w g 0 m dk os) (RowP.enc x) (RowP.enc y) (RowP.row x) (RowP.row y) (qK (far m os dk x)) (qK (far m os dk y)) x.2.2 y.2.2).mono ?_;rintro e w' ⟨rfl,rfl⟩;exact⟨rfl,0,rfl⟩
 have eg:∀args w,(callFunc 119 args).run Tryz.prog w=.ok (.enter 119 args) w:=enters_of Tryz.func119 (by kernel_rfl) rfl;have a6:=Any.slices_SortFunc Tryz.sortRows RowP.enc (λp=>RowP.one p) (λx y=>cmpL (RowP.row x) (RowP.row y)) (qEz RowP.row) 119 #[] g 0 cap d w eg b9.lays hH d7 Oo;rw[a4]at a6;refine a6.mono ?_;rintro e w' ⟨rfl,M,m,os,⟨p1,-,p3⟩,hs,rfl⟩;have U:M.size=ls.length:=p1.trans a4
 have V:M.toList.Perm d.toList:=by
  have e1:M.extract 0 ls.length=M:=by rw[<-U];exact Array.extract_size ..
  have e2:d.extract 0 ls.length=d:=by rw[<-a4];exact Array.extract_size ..
  rw[e1,e2]at p3;exact p3
 have a7:d.toList.map RowP.row=ls:=by
  refine List.ext_getElem? λi=>?_;by_cases hi:i < ls.length
  ·have:=(I i hi).2;rw[getElem!_pos d i Oo]at this;rw[bN,Array.getElem?_toList,Array.getElem?_eq_getElem Oo,bC hi,Option.map_some,this,gD,bC hi];rfl
  ·rw[gN (by simp;omega),gN Oo]
 have d8:d.toList.map RowP.enc=us:=by
  refine List.ext_getElem? λi=>?_;have hl:=h.len;by_cases hi:i < ls.length
  ·have:=(I i hi).1;rw[getElem!_pos d i Oo]at this;rw[bN,Array.getElem?_toList,Array.getElem?_eq_getElem Oo,bC Oo,Option.map_some,this,gD,bC Oo];rfl
  ·rw[gN (by simp;omega),gN Oo]
 have a5:(M.toList.map RowP.row).length=ls.length:=by simp[U]
 have a8:M.toList.Pairwise λp q=>∀g,(RowP.enc p).ownBlock=some g->(RowP.enc q).ownBlock≠some g:=by
  refine(V.symm.pairwise_iff λ{p q} h1 g h2 h3=>h1 g h3 h2).1 ?_;rw[List.pairwise_iff_getElem];intro i j hi O a2 g h1;simp only[Array.length_toList]at hi O;have c7:=(I i Oo).1;have c8:=(I j Oo).1;rw[getElem!_pos d i Oo]at c7;rw[getElem!_pos d j Oo]at c8;rw[Array.getElem_toList,c7]at h1;rw[Array.getElem_toList,c8];exact h.ap i j a2 Oo g h1
 refine⟨rfl,M.toList.map RowP.enc,M.toList.map RowP.row,⟨?_,Ss,λi hi=>?_,λi j a2 O g=>?_⟩,a5,λz=>?_,?_,?_⟩
 ·rw[a5];refine⟨by simp[U],Or.inr ⟨g,cap,_,rfl,hB,qFy _ _ _ _ _ _ _ K,a9,b0,?_,?_⟩⟩
  ·unfold Sort.putCells;simp[d0]
  ·refine List.ext_getElem? λi=>?_;rw[Nat.mul_one];by_cases hi:i < ls.length
   ·rw[List.getElem?_take_of_lt hi,Array.getElem?_toList];unfold Sort.putCells;rw[Array.getElem?_mapIdx,Array.getElem?_eq_getElem Oo,Option.map_some,if_pos ⟨nZ _,Oo⟩,bN,Array.getElem?_toList,Array.getElem?_eq_getElem Oo,Option.map_some,Nat.sub_zero,getElem!_pos M i Oo]
   ·rw[gN (by rw[bZ];omega),gN (by simp;omega)]
 ·rw[a5]at hi;have e1:(M.toList.map RowP.enc).getD i undef=RowP.enc M[i]:=by rw[gD,bN,Array.getElem?_toList,Array.getElem?_eq_getElem Oo];rfl
  have e2:(M.toList.map RowP.row).getD i []=RowP.row M[i]:=by rw[gD,bN,Array.getElem?_toList,Array.getElem?_eq_getElem Oo];rfl
  rw[e1,e2];exact far _ _ _ _
 ·rw[a5]at O;have e1:∀i (hi:i < ls.length),(M.toList.map RowP.enc).getD i undef=RowP.enc M[i]:=λi hi=>by rw[gD,bN,Array.getElem?_toList,Array.getElem?_eq_getElem Oo];rfl
  rw[e1 i Oo,e1 j O];have:=(List.pairwise_iff_getElem.1 a8) i j (by simp;omega) (by simp;omega) a2 g;rw[Array.getElem_toList,Array.getElem_toList]at this;exact this
 ·rw[(V.map RowP.row).mem_iff,a7]
 ·rw[List.pairwise_map,List.pairwise_iff_getElem];intro i j hi O a2;simp only[Array.length_toList]at hi O;have:=hs i j (nZ _) a2 Oo;rw[getElem!_pos M j Oo,getElem!_pos M i Oo]at this;rw[Array.getElem_toList,Array.getElem_toList];simpa[ltOf]using this
 ·exact⟨rfl,rfl,rfl,qE0 _ _ _ _ _ _ _,λb hb=>qAK _ _ _ _ _ _ _ Oo Oo⟩
theorem UY{I lb:List Int}(hl:I.length=lb.length)(h:∀i,i < I.length->I.getD i 0=lb.getD i 0):I=lb:=by
 refine List.ext_getElem hl λi K M=>?_;have:=h i K;rw[gD,bC K,gD,bC M]at this;exact this
theorem QE(w:World)(va vb:Value)(I lb:List Int)(ha:IS w va I)(hb:IS w vb lb)(hl:I.length<=1099511627776)(a4:lb.length<=1099511627776):
 Cl 60 #[va,vb] w λe w'=>e=.returned (.bool (decide (I=lb)))/\∃q,w'=w.drewN q:=by
 obtain⟨a,cap,rfl,hc⟩:=ha;obtain⟨a',a6,rfl,M⟩:=hb;by_cases hlen:I.length=lb.length
 ·have HF:Hid (∀j,j < I.length->¬I.getD j 0=lb.getD j 0->decide (I=lb)=false):=hid λj _ e=>by
   rw[decide_eq_false_iff_not];rintro rfl;exact e rfl
  have HT:Hid ((∀j,j < I.length->I.getD j 0=lb.getD j 0)->decide (I=lb)=true):=hid λh=>by rw[dE];exact UY hlen h
  generalize decide (I=lb)=res at *;rw[<-hlen]at M a4 ⊢;obtain⟨n,hn⟩:∃n,n=I.length:=⟨_,rfl⟩;rw[<-hn]at hc M hl HF HT ⊢;have HC:=hid hc;have a5:=hid M;clear hc M hn hlen a4;go_enter Tryz.func60,Tryz.ntmps60
  go_wp2_with fail
  go_loopw [13] (λt wr=>∃j:Nat,j<=n/\t=.int .i64 j/\Hid (∃k,wr=w.drewN k)/\Hid (∀i,i < j->I.getD i 0=lb.getD i 0)) (λt _=>n - (intOf t).toNat)
  case atStart=>exact⟨0,nZ _,rfl,hid ⟨0,rfl⟩,hid (λi hi=>Oo)⟩
  case round=>
   obtain⟨j,hj,rfl,hB,a2⟩:=hrel;by_cases a3:j < n
   ·have i1:(j:Int) < (n:Int):=Oo;rcases HC.out with h0|⟨b,o,rfl,O⟩
    ·omega
    rcases a5.out with h0|⟨b',o',rfl,K⟩
    ·omega
    have c1:wr.cell? ⟨b,o+j,none⟩=some (.int .i64 (I.getD j 0)):=by obtain⟨k,rfl⟩:=hB.out;exact O j a3
    have c2:wr.cell? ⟨b',o'+j,none⟩=some (.int .i64 (lb.getD j 0)):=by obtain⟨k,rfl⟩:=hB.out;exact K j a3
    have fin:=HF.out j a3
    have nxt:I.getD j 0=lb.getD j 0->Hid (∀i,i < j+1->I.getD i 0=lb.getD i 0):=λe=>hid λi hi=>by
     by_cases e2:i=j
     ·rw[e2];exact e
     ·exact a2.out i Oo
    clear O K a2;generalize I.getD j 0=x at *;generalize lb.getD j 0=y at *;by_cases U:x=y
    ·have V:=nxt U;subst U;clear fin nxt;have e0:(x != x)=false:=Ss;go_wp2_with fail
     go_quiet (fail)
     go_wp2;go_roundw
     case rel=>exact⟨j+1,Oo,Gg,hid (zj _ hB.out),V⟩
     case measure=>simp[intOf];omega
    ·have V:=hid (fin U);clear fin nxt;have e0:(x != y)=true:=by simp[U]
     go_wp2_with fail
     go_quiet (fail)
     go_wp2;go_ret;exact⟨qI (by rw[V.out]),zj _ hB.out⟩
   ·obtain rfl:j=n:=Oo;have V:=hid (HT.out a2.out);have i1:¬((j:Int) < (j:Int)):=Oo;go_wp2;go_ret;exact⟨qI (by rw[V.out]),hB.out⟩
 ·have V:decide (I=lb)=false:=by rw[decide_eq_false_iff_not];rintro rfl;exact hlen rfl
  rw[V];have i1:¬((I.length:Int)=(lb.length:Int)):=Oo;have i2:((I.length:Int) != (lb.length:Int))=true:=by simp;omega
  clear hc M V;generalize I.length=m at *;generalize lb.length=m' at *;go_enter Tryz.func60,Tryz.ntmps60
  go_wp2;go_ret;exact⟨rfl,0,rfl⟩
def Ap'(u v:Value):Prop:=∀g,u.ownBlock=some g->v.ownBlock≠some g
structure Cst(w wr:World)(B g cap:Nat)(us:List Value)(ls:List (List Int))(k j:Nat)(uo:List Value):Prop where
 os:wr.os=w.os
 tape:wr.tape=w.tape
 output:wr.output=w.output
 size:wr.heap.size=w.heap.size
 far:∀b,b≠g->wr.heap[b]?=w.heap[b]?
 typ:∃cur,wr.heap[g]?=some (.cells cur 25 (0,0))/\cur.size=cap
 len:uo.length=k
 lk:(cpt (ls.take j)).length=k
 kj:k < j
 jn:j<=ls.length
 head:∀p,p < k->wr.cell? ⟨g,p,none⟩=some (uo.getD p undef)
 tail:∀p,j<=p+1->p < ls.length->wr.cell? ⟨g,p,none⟩=some (us.getD p undef)
 each:∀p,p < k->w.ownsRow B 3 1 (uo.getD p undef) ((cpt (ls.take j)).getD p []).length (((cpt (ls.take j)).getD p []).map (Value.int .i64))
 ap:∀p q,p < q->q < k->Ap' (uo.getD p undef) (uo.getD q undef)
 apt:∀p q,p < k->j<=q->q < ls.length->Ap' (uo.getD p undef) (us.getD q undef)
section
variable {w wr:World} {B g cap k j:Nat} {us uo:List Value} {ls:List (List Int)}
theorem Cst.drewN(h:Cst w wr B g cap us ls k j uo)(m:Nat):Cst w (wr.drewN m) B g cap us ls k j uo:=⟨h.os,h.tape,h.output,h.size,h.far,h.typ,h.len,h.lk,h.kj,h.jn,h.head,h.tail,h.each,h.ap,h.apt⟩
theorem Cst.skip(h:Cst w wr B g cap us ls k j uo)(K:j < ls.length)(e:ls.getD (j - 1) []=ls.getD j []):Cst w wr B g cap us ls k (j+1) uo:=by
 have O:=h.kj;obtain⟨i,rfl⟩:∃i,j=i+1:=⟨j - 1,Oo⟩;have M:cpt (ls.take (i+1+1))=cpt (ls.take (i+1)):=Kz K (by simpa using e);exact⟨h.os,h.tape,h.output,h.size,h.far,h.typ,h.len,by rw[M];exact h.lk,Oo,K,h.head,λp hp I=>h.tail p Oo I,by rw[M];exact h.each,h.ap,λp q hp hq I=>h.apt p q hp Oo I⟩
theorem xQ{α:Type}{l:List α}{x d:α}(h:i < l.length):(l++[x]).getD i d=l.getD i d:=by
 rw[gD,aL h,<-gD]
theorem xc{α:Type}{l:List α}{x d:α}(h:i=l.length):(l++[x]).getD i d=x:=by
 rw[gD,bX Oo,show i - l.length=0 by omega];rfl
theorem Cst.keep(h:Cst w wr B g cap us ls k j uo)(V:RQ w B (.slice (some ⟨g,0,none⟩) ls.length cap) us ls)(O:j < ls.length)(e:¬ls.getD (j - 1) []=ls.getD j []):Cst w (wr.setCell ⟨g,k,none⟩ (us.getD j undef)) B g cap us ls (k+1) (j+1) (uo++[us.getD j undef]):=by
 have a7:=h.kj;have hl:=h.len;have K:=h.lk;obtain⟨i,rfl⟩:∃i,j=i+1:=⟨j - 1,Oo⟩;have hc:cpt (ls.take (i+1+1))=cpt (ls.take (i+1))++[ls.getD (i+1) []]:=UQ O (by simpa using e);have a2:=h.tail k;refine⟨h.os,h.tape,h.output,by rw[World.size_setCell];exact h.size,λb hb=>(bE _ _ _ _ hb).trans (h.far b hb),?_,by simp[hl],by rw[hc];simp[K],Oo,O,λp hp=>?_,λp hp U=>?_,λp hp=>?_,λp q a3 hq=>?_,λp q hp hq U=>?_⟩
 ·obtain⟨cur,M,h2⟩:=h.typ;exact⟨_,bJ _ _ _ _ _ _ M,by simp[h2]⟩
 ·by_cases I:p=k
  ·subst I;rw[xc hl.symm];obtain⟨cur,M,h2⟩:=h.typ
   have hex:∃u,wr.cell? ⟨g,p,none⟩=some u:=by
    rw[cell_of_row _ _ _ _ _ _ M]
    have a8:ls.length<=cap:=by
     rcases V.own.2 with ⟨e,-⟩|⟨g',a5,a6,e,-,-,a4,-⟩
     ·cases e
     ·simp only[Value.slice.injEq]at e;obtain⟨-,-,rfl⟩:=e;exact a4
    exact⟨_,Array.getElem?_eq_getElem Oo⟩
   obtain⟨u,hu⟩:=hex;exact bI _ _ _ hu
  ·rw[xQ Oo,bD _ _ _ _ (by intro e2;simp only[Addr.mk.injEq]at e2;omega)];exact h.head p Oo
 ·rw[bD _ _ _ _ (by intro e2;simp only[Addr.mk.injEq]at e2;omega)];exact h.tail p Oo U
 ·rw[hc];by_cases I:p=k
  ·subst I;rw[xc hl.symm,xc K.symm];exact V.each _ O
  ·rw[xQ Oo,xQ Oo];exact h.each p Oo
 ·rw[xQ Oo];by_cases I:q=k
  ·subst I;rw[xc hl.symm];exact h.apt p _ Oo (bK _) O
  ·rw[xQ Oo];exact h.ap p q a3 Oo
 ·by_cases I:p=k
  ·subst I;rw[xc hl.symm];exact λg' M=>V.ap _ q Oo U g' M
  ·rw[xQ Oo];exact h.apt p q Oo Oo U
theorem Cst.start(U:RQ w B (.slice (some ⟨g,0,none⟩) ls.length cap) us ls){K:Nat}(hK:0 < K)(a2:K < ls.length)(a3:∀i,i+1 < K->¬ls.getD i []=ls.getD (i+1) [])(e:ls.getD (K - 1) []=ls.getD K [])(m:Nat):Cst w (w.drewN m) B g cap us ls K (K+1) (us.take K):=by
 obtain⟨i,rfl⟩:∃i,K=i+1:=⟨K - 1,Oo⟩;have hl:=U.len;have hc:cpt (ls.take (i+1+1))=ls.take (i+1):=(Kz a2 (by simpa using e)).trans (Xd i Oo λq hq=>a3 q Oo)
 have I:∀p,p < ls.length->w.cell? ⟨g,p,none⟩=some (us.getD p undef):=λp hp=>by
  obtain⟨g',V,M,-,O⟩:=U.get hp;simp only[Value.slice.injEq,Option.some.injEq,Addr.mk.injEq,and_true,true_and]at M;obtain⟨rfl,-⟩:=M;exact O
 refine⟨rfl,rfl,rfl,rfl,λ_ _=>rfl,?_,by rw[bZ];omega,by rw[hc,bZ];omega,Oo,Oo,λp hp=>by rw[zq hp];exact I p Oo,λp _ hn=>I p hn,λp hp=>?_,λp q a4 hq=>?_,λp q hp hq hn=>?_⟩
 ·rcases U.own.2 with ⟨M,-⟩|⟨g',V,cur,M,-,O,-,-,h2,-⟩
  ·cases M
  ·simp only[Value.slice.injEq,Option.some.injEq,Addr.mk.injEq,and_true,true_and]at M;obtain⟨rfl,rfl⟩:=M;exact⟨cur,O,Oo⟩
 ·rw[hc,zq hp,zq hp];exact U.each p Oo
 ·rw[zq Oo,zq hq];exact λg' O=>U.ap p q a4 Oo g' O
 ·rw[zq hp];exact λg' O=>U.ap p q Oo hn g' O
end
theorem V1{e:TypeId}{c:Nat}:∀(vs:List Value) (o:Nat) (W:World) (m:Nat),(∃cur,W.heap[c]?=some (.cells cur e (0,0))/\cur.size=m)->∃cur,(W.setCells c o vs).heap[c]?=some (.cells cur e (0,0))/\cur.size=m
 |[],_,_,_,h=>h
 |_::r,o,_,m,h=>V1 r (o+1) _ m (by
  obtain⟨cur,I,K⟩:=h;exact⟨_,bJ _ _ _ _ _ _ I,by simp[K]⟩)
theorem V2{c b:Nat}(hb:b≠c):∀(vs:List Value) (o:Nat) (W:World),(W.setCells c o vs).heap[b]?=W.heap[b]?
 |[],_,_=>rfl
 |_::r,o,_=>(V2 hb r (o+1) _).trans (bE _ _ _ _ hb)
theorem YS{c:Nat}:∀(vs:List Value) (o:Nat) (W:World),(W.setCells c o vs).heap.size=W.heap.size
 |[],_,_=>rfl
 |v::r,o,W=>(YS r (o+1) (W.setCell ⟨c,o,none⟩ v)).trans (World.size_setCell _ _ _)
theorem V3{c:Nat}:∀(vs:List Value) (o:Nat) (W:World),(W.setCells c o vs).os=W.os/\(W.setCells c o vs).tape=W.tape/\(W.setCells c o vs).output=W.output
 |[],_,_=>⟨rfl,rfl,rfl⟩
 |v::r,o,W=>V3 r (o+1) (W.setCell ⟨c,o,none⟩ v)
theorem Cst.fin{wr:World}{g cap k:Nat}{us uo:List Value}{ls:List (List Int)}(h:Cst w wr B g cap us ls k ls.length uo)(hR:RQ w B (.slice (some ⟨g,0,none⟩) ls.length cap) us ls)(vs:List Value):
 RQ (wr.setCells g k vs) B (.slice (some ⟨g,0,none⟩) k cap) uo (cpt ls)/\Below B w (wr.setCells g k vs):=by
 obtain⟨hB,a5,U⟩:B<=g/\ls.length<=cap/\cap<=maxLen:=by
  rcases hR.own.2 with ⟨e,-⟩|⟨g',a6,cur,e,a2,hc,h1,h2,-⟩
  ·cases e
  ·simp only[Value.slice.injEq,Option.some.injEq,Addr.mk.injEq,true_and,and_true]at e;obtain⟨rfl,rfl⟩:=e;exact⟨a2,h1,h2⟩
 have hl:=h.len;have V:=h.lk;have a7:=h.kj;have I:=h.each;rw[tL]at V I;obtain⟨cur,K,a8⟩:=V1 vs k wr cap h.typ
 have O:∀p,p < k->cur[p]?=some (uo.getD p undef):=λp hp=>by
  have h1:=h.head p hp;rw[<-World.cell?_setCells_out g vs k wr ⟨g,p,none⟩ (λ_ _=>Or.inl hp),cell_of_row _ _ _ _ _ _ K]at h1;exact h1
 have M:∀b,b≠g->(wr.setCells g k vs).heap[b]?=w.heap[b]?:=λb hb=>(V2 hb vs k wr).trans (h.far b hb);have a3:∃cur,w.heap[g]?=some (.cells cur 25 (0,0)):=qO hR.own rfl;refine⟨⟨?_,Oo,λi hi=>?_,λi j a4 hj=>h.ap i j a4 Oo⟩,?_⟩
 ·rw[V];refine⟨Oo,Or.inr ⟨g,cap,cur,rfl,hB,K,Oo,U,Oo,?_⟩⟩;refine List.ext_getElem? λp=>?_;rw[Nat.mul_one];by_cases hp:p < k
  ·rw[List.getElem?_take_of_lt hp,Array.getElem?_toList,O p hp,gD,bC Oo];rfl
  ·rw[gN (by rw[bZ];omega),gN Oo]
 ·exact qA (I i Oo) λq hq=>M q (by
   rintro rfl;exact own_ne (I i Oo) a3 Dd hq.symm)
 ·obtain⟨e1,e2,e3⟩:=V3 (c:=g) vs k wr;exact⟨e1.trans h.os,e2.trans h.tape,e3.trans h.output,by rw[YS,h.size];exact bK _,λb hb=>M b Oo⟩
theorem Qn(w:World)(B g cap:Nat)(us:List Value)(ls:List (List Int))(U:RQ w B (.slice (some ⟨g,0,none⟩) ls.length cap) us ls)(hM:∀i,(ls.getD i []).length<=1099511627776)(hn:ls.length<=1000000):
 Cl 128 #[.slice (some ⟨g,0,none⟩) ls.length cap,.func (.func 60) #[] #[]] w λe w'=>∃v uo,e=.returned v/\RQ w' B v uo (cpt ls)/\Below B w w':=by
 have HR:=hid U;have eg:∀args w,(callFunc 60 args).run Tryz.prog w=.ok (.enter 60 args) w:=enters_of Tryz.func60 (by kernel_rfl) rfl;have a7:Hid (∀q,RQ (w.drewN q) B (.slice (some ⟨g,0,none⟩) ls.length cap) us ls/\Below B w (w.drewN q)):=hid λq=>⟨⟨U.own,U.len,U.each,U.ap⟩,⟨rfl,rfl,rfl,bK _,λ_ _=>rfl⟩⟩;by_cases h2:ls.length < 2
 ·have hc:cpt ls=ls:=by
   match ls,h2 with
   |[],_=>rfl
   |[x],_=>rfl
  have i1:(ls.length:Int) < 2:=Oo;rw[hc];clear U hM;go_enter Tryz.func128,Tryz.ntmps128
  go_wp2;go_ret;exact⟨_,us,rfl,HR.out,bM _ _⟩
 ·obtain⟨d0⟩:ls.length<=cap/\True:=by
   rcases U.own.2 with ⟨e,-⟩|⟨g',d6,cur,e,e4,hc,V,-⟩
   ·cases e
   ·simp only[Value.slice.injEq]at e;obtain⟨-,-,rfl⟩:=e;exact⟨V,trivial⟩
  have O:Hid (∀p,p < ls.length->w.cell? ⟨g,p,none⟩=some (us.getD p undef)):=hid λp hp=>by
   obtain⟨g',d6,e1,-,V⟩:=U.get hp;simp only[Value.slice.injEq,Option.some.injEq,Addr.mk.injEq,and_true,true_and]at e1;obtain⟨rfl,-⟩:=e1;exact V
  have a5:Hid (∀p,p < ls.length->∃a c,us.getD p undef=.slice a (ls.getD p []).length c):=hid λp hp=>by
   rcases (U.each p hp).2 with ⟨e,hn⟩|⟨g,cap,cur,e,_⟩
   ·exact⟨none,0,by rw[e,hn]⟩
   ·exact⟨_,cap,e⟩
  have KQ:Hid (∀(W:World) (p q:Nat),(∀b,b≠g->W.heap[b]?=w.heap[b]?)->p < ls.length->q < ls.length->∀m,Cl 60 #[us.getD p undef,us.getD q undef] (W.drewN m) λe w'=>e=.returned (.bool (decide (ls.getD p []=ls.getD q [])))/\∃r,w'=(W.drewN m).drewN r):=hid λW p q hW hp hq m=>by
   have d8:∃cur,w.heap[g]?=some (.cells cur 25 (0,0)):=qO U.own rfl
   have mv:∀i,i < ls.length->IS (W.drewN m) (us.getD i undef) (ls.getD i []):=λi hi=>qK (w:=W.drewN m) (B:=B) (qA (w':=W.drewN m) (U.each i hi) λb hb=>hW b (by
    rintro rfl;exact own_ne (U.each i hi) d8 Dd hb.symm))
   exact QE (W.drewN m) _ _ _ _ (mv p hp) (mv q hq) (hM p) (hM q)
  have a6:Hid ((∀i,i+1 < ls.length->¬ls.getD i []=ls.getD (i+1) [])->cpt ls=ls):=hid λh=>by
   have:=Xd (ls:=ls) (ls.length - 1) Oo (λi hi=>h i Oo);rw[show ls.length - 1+1=ls.length by omega,tL]at this;exact this
  have b9:Hid (∀K m,0 < K->K < ls.length->(∀i,i+1 < K->¬ls.getD i []=ls.getD (i+1) [])->ls.getD (K - 1) []=ls.getD K []->Cst w (w.drewN m) B g cap us ls K (K+1) (us.take K)):=hid λK m V h3 h4 h5=>Cst.start U V h3 h4 h5 m;clear U hM;have q2:¬((ls.length:Int) < 2):=Oo;obtain⟨n,c7⟩:∃n,n=ls.length:=⟨_,rfl⟩;have HN:=hid c7;rw[<-c7]at O a5 KQ a6 b9 a7 hn d0 h2 q2 ⊢;clear c7;go_enter Tryz.func128,Tryz.ntmps128
  go_wp2_with fail
  go_loopw [5] (λt wr=>∃k:Nat,1<=k/\k<=n/\t=.int .i64 k/\Hid (∃q,wr=w.drewN q)/\Hid (∀i,i+1 < k->¬ls.getD i []=ls.getD (i+1) [])) (λt _=>n - (intOf t).toNat)
  case atStart=>exact⟨1,bK _,Oo,rfl,hid ⟨0,rfl⟩,hid (λi hi=>Oo)⟩
  case round=>
   obtain⟨k,e5,hk,rfl,hQ,a8⟩:=hrel;by_cases a9:k < n
   ·have i1:(k:Int) < (n:Int):=Oo;have i2:((k:Int) - 1).toNat=k - 1:=Oo;have c1:wr.cell? ⟨g,k,none⟩=some (us.getD k undef):=by obtain⟨q,rfl⟩:=hQ.out;exact O.out k a9
    have c2:wr.cell? ⟨g,k - 1,none⟩=some (us.getD (k - 1) undef):=by obtain⟨q,rfl⟩:=hQ.out;exact O.out (k - 1) Oo
    have I:Hid (∀m,Cl 60 #[us.getD k undef,us.getD (k - 1) undef] (wr.drewN m) λe w'=>e=.returned (.bool (decide (ls.getD k []=ls.getD (k - 1) [])))/\∃r,w'=(wr.drewN m).drewN r):=hid λm=>by
     obtain⟨q,rfl⟩:=hQ.out;exact KQ.out (w.drewN q) k (k - 1) (λ_ _=>rfl) a9 Oo m
    obtain⟨a1,k1,e1⟩:=a5.out k a9;obtain⟨a2,k2,e2⟩:=a5.out (k - 1) Oo;rw[e1]at c1 I;rw[e2]at c2 I;have i3:¬((k:Int) - 1 < 0):=Oo;have i4:(k:Int) - 1 < (n:Int):=Oo;have i5:(0:Int)<=(k:Int) - 1:=Oo;by_cases hd:ls.getD k []=ls.getD (k - 1) []
    ·rw[decide_eq_true hd]at I;generalize (ls.getD k []).length=m1 at *;generalize (ls.getD (k - 1) []).length=m2 at *;go_upto_region 6 with fail
     go_quiet (first|(go_at_call 60;exact Calls.quiet_of (I.out _)))
     have c8:Hid (Cst w (wr.drewN nq) B g cap us ls k (k+1) (us.take k)):=hid (by
      obtain⟨q,rfl⟩:=hQ.out;rw[World.drewN_drewN];exact b9.out k (q+nq) Oo a9 a8.out hd.symm)
     clear c1 c2 I e1 e2 hQ a8 hd b9 a6 a7 O i2 i3 i4 i5;generalize wr.drewN nq=W5 at c8 ⊢;have q5:¬cap=k:=Oo;have q6:k<=cap:=Oo;go_wp2_with fail
     go_loopw [5,7] (λt5 t7 wr=>∃M k2:Nat,1<=k2/\k+k2<=n/\t5=.int .i64 M/\t7=.int .i64 k2/\Hid (∃uo,Cst w wr B g cap us ls M (k+k2) uo)) (λ_ t7 _=>n - (intOf t7).toNat)
     case atStart=>exact⟨k,1,bK _,Oo,rfl,rfl,hid ⟨_,c8.out⟩⟩
     case round=>
      clear c8;obtain⟨M,k2,e6,e0,rfl,rfl,HT⟩:=hrel;obtain⟨uo,hC⟩:=HT.out;have HC:=hid hC;have e7:=hC.kj;clear HT hC
      have d7:Hid (∃u,wr.cell? ⟨g,M,none⟩=some u):=hid (by
       obtain⟨cur,V,h3⟩:=HC.out.typ;rw[cell_of_row _ _ _ _ _ _ V];exact⟨_,Array.getElem?_eq_getElem Oo⟩)
      have f1:∀p,wr.frozen? ⟨g,p,none⟩=false:=λp=>by
       obtain⟨cur,V,-⟩:=HC.out.typ;unfold World.frozen?;rw[V];simp
      by_cases b0:k+k2 < n
      ·have j1:(k2:Int) < ((n - k:Nat):Int):=Oo;have j2:((k2:Int) - 1).toNat=k2 - 1:=Oo;have j3:¬((k2:Int) - 1 < 0):=Oo;have j4:(k2:Int) - 1 < ((n - k:Nat):Int):=Oo;have j5:(0:Int)<=(k2:Int) - 1:=Oo;have j6:(M:Int) < (n:Int):=Oo;have d1:wr.cell? ⟨g,k+k2,none⟩=some (us.getD (k+k2) undef):=HC.out.tail (k+k2) Oo (by rw[<-HN.out];omega);have d2:wr.cell? ⟨g,k+(k2 - 1),none⟩=some (us.getD (k+(k2 - 1)) undef):=HC.out.tail (k+(k2 - 1)) Oo (by rw[<-HN.out];omega);have I:=hid (KQ.out wr (k+k2) (k+(k2 - 1)) HC.out.far b0 Oo);obtain⟨a3,k3,e1⟩:=a5.out (k+k2) b0;obtain⟨a4,k4,e2⟩:=a5.out (k+(k2 - 1)) Oo;have d9:=hid e1;rw[e1]at d1 I;rw[e2]at d2 I;clear e1 e2;have ej:k+k2 - 1=k+(k2 - 1):=Oo;by_cases hd:ls.getD (k+k2) []=ls.getD (k+(k2 - 1)) []
       ·rw[decide_eq_true hd]at I;have b7:=hid (HC.out.skip (by rw[<-HN.out];exact b0) (by rw[ej];exact hd.symm));generalize (ls.getD (k+k2) []).length=m3 at *;generalize (ls.getD (k+(k2 - 1)) []).length=m4 at *;clear ej hd;go_upto_region 11 with fail
        go_quiet (first|(go_at_call 60;exact Calls.quiet_of (I.out _)))
        have c9:=hid (b7.out.drewN nq);go_wp2_with fail
        go_roundw
        case rel=>exact⟨M,k2+1,Oo,Oo,rfl,Gg,hid ⟨_,c9.out⟩⟩
        case measure=>simp[intOf];omega
       ·rw[decide_eq_false hd]at I;have b7:Hid (∀q,Cst w ((wr.drewN q).setCell ⟨g,M,none⟩ (us.getD (k+k2) undef)) B g cap us ls (M+1) (k+k2+1) (uo++[us.getD (k+k2) undef])):=hid λq=>(HC.out.drewN q).keep HR.out (by rw[<-HN.out];exact b0) (by rw[ej];exact λe=>hd e.symm);rw[d9.out]at b7;obtain⟨u9,d3⟩:=d7.out;have f3:=f1 M;generalize (ls.getD (k+k2) []).length=m3 at *;generalize (ls.getD (k+(k2 - 1)) []).length=m4 at *;clear ej hd f1;go_upto_region 11 with fail
        go_quiet (first|(go_at_call 60;exact Calls.quiet_of (I.out _)))
        have c9:=hid (b7.out nq);go_wp2_with fail
        go_roundw
        case rel=>exact⟨M+1,k2+1,Oo,Oo,Gg,Gg,hid ⟨_,c9.out⟩⟩
        case measure=>simp[intOf];omega
      ·have j1:¬((k2:Int) < ((n - k:Nat):Int)):=Oo;obtain rfl:k2=n - k:=Oo
       have HF:Hid (RQ (wr.setCells g M (List.replicate (n - M) (.slice none 0 0))) B (.slice (some ⟨g,0,none⟩) M cap) uo (cpt ls)/\Below B w (wr.setCells g M (List.replicate (n - M) (.slice none 0 0)))):=hid (by
        have h:=HC.out;rw[show k+(n - k)=ls.length by rw[<-HN.out];omega]at h;exact h.fin HR.out _)
       have e3:∀ty,(Builtin.clear_ #[24] ty #[.slice (some ⟨g,M,none⟩) (n - M) (cap - M)]).run Tryz.prog wr=.ok (.tuple #[]) (wr.setCells g M (List.replicate (n - M) (.slice none 0 0))):=λty=>
        Lib.run_clear_slice wr 24 25 ty (.slice none 0 0) Tryz.underlying24 (λ_=>by kernel_rfl) rfl rfl g M (n - M) (cap - M) Oo (λj hj=>by
         obtain⟨cur,V,h3⟩:=HC.out.typ;rw[cell_of_row _ _ _ _ _ _ V,Array.getElem?_eq_getElem Oo];rfl) (λj _=>f1 _)
       have q7:¬cap=M:=Oo;have q8:M<=cap:=Oo;have q9:M<=n:=Oo;clear HC d7 f1;go_wp2_with fail
       go_ret;exact⟨_,rfl,⟨uo,HF.out.1⟩,HF.out.2⟩
    ·rw[decide_eq_false hd]at I
     have hN:Hid (∀i,i+1 < k+1->¬ls.getD i []=ls.getD (i+1) []):=hid λi hi=>by
      by_cases e:i+1 < k
      ·exact a8.out i e
      ·obtain rfl:k=i+1:=Oo;simpa using λe=>hd e.symm
     generalize (ls.getD k []).length=m1 at *;generalize (ls.getD (k - 1) []).length=m2 at *;clear hd;go_upto_region 6 with fail
     go_quiet (first|(go_at_call 60;exact Calls.quiet_of (I.out _)))
     go_wp2_with fail
     go_roundw
     case rel=>exact⟨k+1,Oo,Oo,Gg,hid (zj _ hQ.out),hN⟩
     case measure=>simp[intOf];omega
   ·obtain rfl:k=n:=Oo;have i1:¬((k:Int) < (k:Int)):=Oo
    have HF:Hid (∃q,wr=w.drewN q/\RQ (w.drewN q) B (.slice (some ⟨g,0,none⟩) k cap) us (cpt ls)/\Below B w (w.drewN q)):=hid (by
     obtain⟨q,e⟩:=hQ.out;exact⟨q,e,by rw[a6.out a8.out];exact(a7.out q).1,(a7.out q).2⟩)
    go_wp2_with fail
    go_ret;obtain⟨q,rfl,V,h3⟩:=HF.out;exact⟨_,rfl,⟨us,V⟩,h3⟩
def xD(rows:List (List Int))(places:List Int):List (List Int):=rows.map λr=>atP r places
theorem qDf(rows:List (List Int))(places:List Int):(xD rows places).length=rows.length:=by simp[xD]
theorem qCO{rows:List (List Int)}{places:List Int}{j:Nat}(I:j < rows.length):xD (rows.take (j+1)) places=xD (rows.take j) places++[atP (rows.getD j []) places]:=by
 unfold xD;rw[tA,bC I,gD,bC I,mA];rfl
theorem JF(w:World)(vr vp:Value)(rows:List (List Int))(places:List Int)(hr:ISS w vr rows)(hp:IS w vp places)(hn:rows.length<=1000000)(f8:places.length<=1000)(c7:∀r∈rows,∀p∈places,0<=p/\p < r.length):
 Cl 106 #[vr,vp] w λe w'=>∃v uo,e=.returned v/\RQ w' w.heap.size v uo (srt (xD rows places))/\Bl w w':=by
 obtain⟨iS,M,c8,c9,d0⟩:=info_parts Tryz.infoIS;obtain⟨ar,cr,rfl,hc⟩:=hr
 have HC:Hid (∀W,Bl w W->∀j,j < rows.length->∃(b o:Nat) (u:Value),ar=some ⟨b,o,none⟩/\W.cell? ⟨b,o+j,none⟩=some u/\IS W u (rows.getD j [])):=hid λW hW j M=>by
  rcases hc with h0|⟨b,o,rfl,h⟩
  ·omega
  ·obtain⟨u,h1,h2⟩:=h j M;exact⟨b,o,u,rfl,(hW.cell (bL w _ h1)).trans h1,h2.below hW⟩
 have KV:Hid (∀W u j,Bl w W->j < rows.length->IS W u (rows.getD j [])->Cl 126 #[u,vp] W λe w'=>∃v,e=.returned v/\w'.ownsRow W.heap.size 3 1 v (atP (rows.getD j []) places).length ((atP (rows.getD j []) places).map (Value.int .i64))/\Bl W w'):=hid λW u j hW M hu=>
  Xy W u vp _ places hu (hp.below hW) f8 (c7 _ (by rw[gD,bC M];exact gM _))
 have HP:Hid (∀j,j < rows.length->xD (rows.take (j+1)) places=xD (rows.take j) places++[atP (rows.getD j []) places]):=hid λj M=>qCO M;have a9:Hid (∀j,j<=rows.length->(xD (rows.take j) places).length=j):=hid λj M=>by rw[qDf,bZ];omega
 have d6:Hid (xD (rows.take rows.length) places=xD rows places):=hid (by rw[tL]);have d7:Hid (xD (rows.take 0) places=[]):=hid rfl
 have HM:Hid (∀i,((xD rows places).getD i []).length<=1099511627776):=hid λi=>by
  unfold xD;rw[gD,bN];cases h:rows[i]? with
  |none=>simp
  |some r=>show(atP r places).length<=_;rw[qAH];omega
 obtain⟨ap,cp,rfl,-⟩:=hp;clear hc c7;obtain⟨n,d8⟩:∃n,n=rows.length:=⟨_,rfl⟩;rw[<-d8]at HC KV HP a9 d6 hn ⊢;clear d8;generalize places.length=np at *;go_enter Tryz.func106,Tryz.ntmps106
 go_wp2_with (at_make;refine wpList_make_own _ rfl _ _ 24 rfl w.heap.size 25 iS (.slice none 0 0) 1 Tryz.underlying24 M c8 c9 _ _ _ n rfl rfl rfl ?b2 ?b3 (bK _) ?_)
 case b2=>rw[d0];omega
 case b3=>unfold maxLen;omega
 intro w0 V K;have b0:Hid (RQ w0 w.heap.size (.slice (some ⟨w.heap.size,0,none⟩) 0 n) [] []/\Bl w w0):=hid ⟨⟨V,rfl,λi hi=>by simp at hi,λi j _ M=>by simp at M⟩,(bM _ _).grown K (bK _) (λj M=>by cases M)⟩;clear K V;go_wp2_with fail
 go_loopw [5,13] (λu t wr=>∃(j g cap:Nat),j<=n/\t=.int .i64 j/\u=.slice (some ⟨g,0,none⟩) j cap/\Hid (∃uo,RQ wr w.heap.size (.slice (some ⟨g,0,none⟩) j cap) uo (xD (rows.take j) places)/\Bl w wr)) (λ_ t _=>n - (intOf t).toNat)
 case atStart=>exact⟨0,w.heap.size,n,nZ _,rfl,rfl,hid ⟨[],by rw[d7.out];exact b0.out.1,b0.out.2⟩⟩
 case round=>
  clear b0 d7;obtain⟨j,g,cap,f9,rfl,rfl,HT⟩:=hrel;obtain⟨uo,hQ,hB⟩:=HT.out;have HQ:=hid hQ;have HB:=hid hB;clear HT hQ hB;by_cases b7:j < n
  ·have i1:(j:Int) < (n:Int):=Oo;obtain⟨b,o,u,ea,c1,hu⟩:=HC.out wr HB.out j b7;subst ea;have d9:=hid (KV.out wr u j HB.out b7 hu);have g2:=hid (HP.out j b7);have O:=a9.out j f9;obtain⟨au,cu,rfl,-⟩:=hu;generalize (rows.getD j []).length=lr at *;generalize atP (rows.getD j []) places=pr at *;go_wp2_with fail
   refine d9.out.mono ?_;rintro e w2 ⟨v2,rfl,a4,U⟩;have e0:=hid (HQ.out.below U);have a5:=hid (bt HB.out U);have g4:=hid (qF a4 HB.out.size)
   have g5:Hid (∀i,i < (xD (rows.take j) places).length->∀g,(uo.getD i undef).ownBlock=some g->v2.ownBlock≠some g):=hid λi hi g h1 h2=>by
    have a1:=((HQ.out.each i hi).lt g h1).2;have a2:=(a4.lt g h2).1;omega
   obtain⟨a2,k2,e2⟩:∃a c,v2=.slice a pr.length c:=by
    rcases a4.2 with ⟨e,hn⟩|⟨g,cap,cur,e,_⟩
    ·exact⟨none,0,by rw[e,hn]⟩
    ·exact⟨_,cap,e⟩
   subst e2;have a6:=a5.out.size;clear a4 U d9 c1 HQ HB;have e1:w2.ownsRow w.heap.size 25 1 (.slice (some ⟨g,0,none⟩) j cap) j uo:=by have:=e0.out.own;rw[O]at this;exact this
   have e3:=hid e1;clear e1;go_wp2_with (first|(at_builtin;refine wpList_append_lies _ rfl _ _ 24 rfl w.heap.size 25 iS (.slice none 0 0) 1 24 Tryz.underlying24 M c8 c9 d0 rfl Dd (.slice (some ⟨g,0,none⟩) j cap) _ uo rfl (e3.out.alloc _) ⟨_,0,none⟩ 1 1 [.slice a2 pr.length k2] rfl rfl (qH _ _ _) (λu hu=>by simp at hu;subst hu;rfl) Dd (by unfold maxLen;omega) Oo (by simp;omega) _ rfl ?_;intro g3 cp3 w3 a3 I e4 e5)|fail)
   have HN:Hid (∃g6,RQ w3 w.heap.size (.slice (some ⟨g3,0,none⟩) (j+1) cp3) g6 (xD (rows.take (j+1)) places)/\Bl w w3):=hid ⟨_,by rw[g2.out];exact e0.out.step g4.out g5.out (by rw[O];exact a3) I,(a5.out.alloc a6 _).grown I (by simp;omega) (λq hq=>(e3.out.lt q hq).1)⟩;clear a3 I e4 e5;go_roundw
   case rel=>exact⟨j+1,g3,cp3,Oo,Gg,rfl,HN⟩
   case measure=>simp[intOf];omega
  ·obtain rfl:j=n:=Oo;have i1:¬((j:Int) < (j:Int)):=Oo;have O:=a9.out j (bK _);rw[d6.out]at HQ O;have KS:=hid (YD wr w.heap.size g cap uo (xD rows places) (by rw[O];exact HQ.out) (λi _=>HM.out i) Oo);rw[O]at KS;go_wp2_with fail
   refine KS.out.mono ?_;rintro e w2 ⟨rfl,g7,a7,e6,a8,b9,a6,U⟩;have a5:Hid (Bl w w2):=hid (HB.out.trans U)
   have e7:∀i,(a7.getD i []).length<=1099511627776:=λi=>by
    rw[gD];cases h:a7[i]? with
    |none=>simp
    |some r=>
     obtain⟨q,hq,e⟩:=gO ((b9 r).1 (List.mem_of_getElem? h));have:=HM.out q;rw[gD,bC hq,e]at this;exact this
   have KC:=hid (Qn w2 w.heap.size g cap g7 a7 (by rw[a8];exact e6) e7 (by rw[a8];omega));have e8:a7.Pairwise λa b=>¬cmpL b a < 0:=a6.imp λh=>Oo;rw[a8,qE1 e8 b9]at KC;clear KS e6 U a6 e8 b9 e7 a8;go_wp2_with fail
   refine KC.out.mono ?_;rintro e w3 ⟨v3,e9,rfl,f4,f7⟩;have HF:Hid (RQ w3 w.heap.size v3 e9 (srt (xD rows places))/\Bl w w3):=hid ⟨f4,a5.out.trans f7⟩;clear f4 f7;go_wp2_with fail
   go_ret;exact⟨_,e9,rfl,HF.out.1,HF.out.2⟩
end Go.Proofs.YtkaipapdlnojiaaGreat
