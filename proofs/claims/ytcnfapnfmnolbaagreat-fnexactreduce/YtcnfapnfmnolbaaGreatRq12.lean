import Derived.Ground.SlsfProg
import Derived.Lib.SliceRun
import Derived.Shelf.SlGeneric
import Derived.Shelf.SlSortCmp.Whole1
import Derived.Test.YtcnfapnfmnolbaaGreatRq10
set_option maxHeartbeats 40000000
set_option maxRecDepth 1000000
namespace Go.Proofs
open Go.Shelf
def Tryz.sortRows_ren : Go.Shelf.Ren := ⟨λ| 6 => 135 | 15 => 154 | 14 => 164 | 28 => 189 | 29 => 190 | 20 => 193 | 21 => 194 | 22 => 195 | 23 => 196 | 24 => 197 | 25 => 198 | 26 => 199 | 27 => 200 | 46 => 212 | 47 => 208 | 48 => 209 | 49 => 213 | 50 => 214 | 57 => 218 | n => n, λ| 22 => 23 | 24 => 24 | 25 => 83 | 3 => 3 | 39 => 170 | 0 => 0 | 53 => 213 | 55 => 216 | 4 => 4 | 46 => 232 | 45 => 231 | 50 => 164 | 5 => 5 | 9 => 9 | 66 => 248 | 70 => 252 | 76 => 256 | 77 => 257 | n => n, λ| n => n⟩
theorem Tryz.sortRows : Go.Proofs.SlLaysF.n6 Tryz.prog Tryz.sortRows_ren := {
  mixed := by kernel_rfl
  f6 := ⟨Tryz.f135.name, by decide, Tryz.func135.trans (congrArg some (by kernel_rfl))⟩
  f14 := ⟨Tryz.f164.name, by decide, Tryz.func164.trans (congrArg some (by kernel_rfl))⟩
  f15 := Tryz.func154.trans (congrArg some (by kernel_rfl))
  f20 := ⟨Tryz.f193.name, by decide, Tryz.func193.trans (congrArg some (by kernel_rfl))⟩
  f21 := ⟨Tryz.f194.name, by decide, Tryz.func194.trans (congrArg some (by kernel_rfl))⟩
  f22 := ⟨Tryz.f195.name, by decide, Tryz.func195.trans (congrArg some (by kernel_rfl))⟩
  f23 := ⟨Tryz.f196.name, by decide, Tryz.func196.trans (congrArg some (by kernel_rfl))⟩
  f24 := ⟨Tryz.f197.name, by decide, Tryz.func197.trans (congrArg some (by kernel_rfl))⟩
  f25 := ⟨Tryz.f198.name, by decide, Tryz.func198.trans (congrArg some (by kernel_rfl))⟩
  f26 := ⟨Tryz.f199.name, by decide, Tryz.func199.trans (congrArg some (by kernel_rfl))⟩
  f27 := ⟨Tryz.f200.name, by decide, Tryz.func200.trans (congrArg some (by kernel_rfl))⟩
  f28 := Tryz.func189.trans (congrArg some (by kernel_rfl))
  f29 := Tryz.func190.trans (congrArg some (by kernel_rfl))
  f46 := ⟨Tryz.f212.name, by decide, Tryz.func212.trans (congrArg some (by kernel_rfl))⟩
  f47 := Tryz.func208.trans (congrArg some (by kernel_rfl))
  f48 := Tryz.func209.trans (congrArg some (by kernel_rfl))
  f49 := ⟨Tryz.f213.name, by decide, Tryz.func213.trans (congrArg some (by kernel_rfl))⟩
  f50 := ⟨Tryz.f214.name, by decide, Tryz.func214.trans (congrArg some (by kernel_rfl))⟩
  f57 := ⟨Tryz.f218.name, by decide, Tryz.func218.trans (congrArg some (by kernel_rfl))⟩
  t0 := Tryz.underlying0
  a0 := Tryz.isAgg0
  z0 := Tryz.sizeOf0
  v0 := Tryz.zeroValue0
  t3 := Tryz.underlying3
  a3 := Tryz.isAgg3
  z3 := Tryz.sizeOf3
  v3 := Tryz.zeroValue3
  t4 := Tryz.underlying4
  a4 := Tryz.isAgg4
  z4 := Tryz.sizeOf4
  v4 := Tryz.zeroValue4
  t5 := Tryz.underlying5
  a5 := Tryz.isAgg5
  z5 := Tryz.sizeOf5
  v5 := Tryz.zeroValue5
  t9 := Tryz.underlying9
  a9 := Tryz.isAgg9
  z9 := Tryz.sizeOf9
  v9 := Tryz.zeroValue9
  t22 := Tryz.underlying23
  a22 := Tryz.isAgg23
  z22 := Tryz.sizeOf23
  v22 := Tryz.zeroValue23
  a24 := Tryz.isAgg24
  z24 := Tryz.sizeOf24
  t25 := Tryz.underlying83
  a25 := Tryz.isAgg83
  z25 := Tryz.sizeOf83
  v25 := Tryz.zeroValue83
  t39 := Tryz.underlying170
  a39 := Tryz.isAgg170
  z39 := Tryz.sizeOf170
  v39 := Tryz.zeroValue170
  t45 := Tryz.underlying231
  a45 := Tryz.isAgg231
  z45 := Tryz.sizeOf231
  v45 := Tryz.zeroValue231
  t46 := Tryz.underlying232
  a46 := Tryz.isAgg232
  z46 := Tryz.sizeOf232
  v46 := Tryz.zeroValue232
  t50 := Tryz.underlying164
  a50 := Tryz.isAgg164
  z50 := Tryz.sizeOf164
  v50 := Tryz.zeroValue164
  t53 := Tryz.underlying213
  a53 := Tryz.isAgg213
  z53 := Tryz.sizeOf213
  v53 := Tryz.zeroValue213
  t55 := Tryz.underlying216
  a55 := Tryz.isAgg216
  z55 := Tryz.sizeOf216
  v55 := Tryz.zeroValue216
  t66 := Tryz.underlying248
  a66 := Tryz.isAgg248
  z66 := Tryz.sizeOf248
  v66 := Tryz.zeroValue248
  t70 := Tryz.underlying252
  a70 := Tryz.isAgg252
  z70 := Tryz.sizeOf252
  v70 := Tryz.zeroValue252
  t76 := Tryz.underlying256
  a76 := Tryz.isAgg256
  z76 := Tryz.sizeOf256
  v76 := Tryz.zeroValue256
  t77 := Tryz.underlying257
  a77 := Tryz.isAgg257
  z77 := Tryz.sizeOf257
  v77 := Tryz.zeroValue257 }
end Go.Proofs
namespace Go.Proofs.YtcnfapnfmnolbaaGreat
open Go.RowKit
variable {B b c i:Nat}{e:TypeId}{w:World}
theorem qF2{α:Type}(f:α->LI):Sort.SWO (ltOf λa b=>qE (f a) (f b)) where
 irrefl x:=by simp[ltOf,zt]
 trans x y z h1 h2:=by
  simp only[ltOf,decide_eq_true_eq]at *;exact xE h1 h2
 ntrans x y z h1 h2:=by
  simp only[ltOf,decide_eq_false_iff_not]at *;intro I;have K:=uK (f x) (f y);have M:=uK (f y) (f z);rcases Int.lt_trichotomy (qE (f y) (f x)) 0 with a|a|a;exact h2 (xE a I);rw[<-yD a]at I;exact h2 I;omega
section
variable {α:Type} [Inhabited α]
theorem qBR(enc:α->Value)(w:World)(blk off m:Nat)(K:Array α)(os:Array Obj)(hb:b<w.1.size)(I:b≠blk):(sortWorld enc w blk off m K os).1[b]?=w.1[b]?:=by
 show(((w.1.modify blk _)++os)[b]?)=_;rw[Array.getElem?_append_left (by simpa using hb),Array.getElem?_modify,if_neg (Ne.symm I)]
theorem qGw(enc:α->Value)(w:World)(blk off m:Nat)(K:Array α)(os:Array Obj){cur:Array Value}{fr:Nat×Nat}(h:w.1[blk]?=some (.cells cur e fr)):(sortWorld enc w blk off m K os).1[blk]?=some (.cells (Sort.putCells enc off K cur) e fr):=by
 have hb:blk<w.1.size:=by
  rcases Nat.lt_or_ge blk w.1.size with I|I;exact I;rw[Array.getElem?_eq_none I]at h;cases h
 show(((w.1.modify blk _)++os)[blk]?)=_;rw[Array.getElem?_append_left (by simpa using hb),Array.getElem?_modify,if_pos rfl,h];rfl
theorem qF3(enc:α->Value)(w:World)(blk off m:Nat)(I:Array α)(os:Array Obj):w.1.size<=(sortWorld enc w blk off m I os).1.size:=by
 show w.1.size<=((w.1.modify blk _)++os).size;simp
end
def RowP(w:World)(B:Nat):Type:={ p:Value×LI // w.ownsRow B 3 1 p.1 p.2.length (p.2.map ai)/\p.2.length<=1099511627776 }
def RowP.enc(p:RowP w B):Value:=p.1.1
def RowP.row(p:RowP w B):LI:=p.1.2
theorem RowP.one(p:RowP w B):(RowP.enc p).oneCell'=true:=by
 obtain⟨⟨v,l⟩,h,-⟩:=p;show v.oneCell'=true;obtain⟨a,cap,rfl⟩:∃a cap,v=.slice a l.length cap:=by
  have I:w.ownsRow B 3 1 v l.length (l.map ai):=h;clear h;rcases I.2 with ⟨rfl,K⟩|⟨g,cap,cur,rfl,_⟩;exact⟨none,0,by rw[K]⟩;exact⟨_,cap,rfl⟩
 rfl
theorem VP(w:World)(B g cap:Nat)(us:List Value)(ls:LL)(h:RQ w B (.slice (some (az g 0)) ls.length cap) us ls)(hM:∀i,i<ls.length->(ls.getD i []).length<=1099511627776)(hn:ls.length<=1000000):
 Cl 135 #[.slice (some (az g 0)) ls.length cap,.func (.func 132) #[] #[]] w λe w'=>e=.returned (.tuple #[])/\∃c8 a4,RQ w' B (.slice (some (az g 0)) ls.length cap) c8 a4/\a4.length=ls.length/\(∀z,z∈a4↔z∈ls)/\(a4.Pairwise λa b=>¬qE b a<0)/\Below B w w':=by
 have inh:Inhabited (RowP w B):=⟨⟨(sn,[]),oN _ _ _ _,Ss⟩⟩
 obtain⟨f,hf⟩:∃f:Fin ls.length->RowP w B,∀i,RowP.enc (f i)=us.getD i undef/\RowP.row (f i)=ls.getD i []:=⟨λi=>⟨(us.getD i undef,ls.getD i []),h.each i i.2,hM i i.2⟩,λi=>⟨rfl,rfl⟩⟩;obtain⟨d,hd⟩:=Ex (Array.ofFn f:Array (RowP w B));have a5:d.size=ls.length:=by rw[hd];exact Array.size_ofFn
 have I:∀j,j<ls.length->RowP.enc d[j]! =us.getD j undef/\RowP.row d[j]! =ls.getD j []:=λj O=>by
  rw[getElem!_pos d j Oo];subst hd;rw[Array.getElem_ofFn];exact hf ⟨j,O⟩
 obtain⟨hB,cur,K,b0,b1,c9,d3⟩:B<=g/\∃cur,w.1[g]?=some (.cells cur 24 (0,0))/\ls.length<=cap/\cap<=maxLen/\cur.size=cap*1/\cur.toList.take (ls.length*1)=us:=by
  rcases h.own.2 with ⟨e,-⟩|⟨g',b7,cur,e,d0,hc,h1,h2,h3,h4⟩;cases e
  simp only[Value.slice.injEq,Option.some.injEq,Addr.mk.injEq,true_and,and_true]at e;obtain⟨rfl,rfl⟩:=e;exact⟨d0,cur,hc,h1,h2,h3,h4⟩
 have d1:g<w.1.size:=by
  rcases Nat.lt_or_ge g w.1.size with h1|h1;exact h1;rw[Array.getElem?_eq_none h1]at K;cases K
 have hH:Sort.Holds RowP.enc w g 0 d:=λj O=>by
  rw[a5]at O;obtain⟨g',b7,e,-,hc⟩:=h.get O;simp only[Value.slice.injEq,Option.some.injEq,Addr.mk.injEq,and_true,true_and]at e;obtain⟨rfl,rfl⟩:=e;refine⟨by rw[Nat.zero_add,(I j O).1];exact hc,?_⟩;unfold World.frozen?;rw[K];simp
 have far:∀(m:Nat) (os:Array Obj) (dk:Array (RowP w B)) (p:RowP w B),(sortWorld RowP.enc w g 0 m dk os).ownsRow B 3 1 (RowP.enc p) (RowP.row p).length ((RowP.row p).map ai):=λm os dk p=>
  qC p.2.1 λq hq=>qBR _ _ _ _ _ _ _ (p.2.1.lt q hq).2 (by
   rintro rfl;exact own_ne p.2.1 ⟨_,K⟩ Dd hq.symm)
 have b8:CmpReads Tryz.prog 132 #[] RowP.enc (λx y=>qE (RowP.row x) (RowP.row y)) g 0 d.size w:=λm os dk _ x y=>by
  refine(vf (sortWorld RowP.enc w g 0 m dk os) (RowP.enc x) (RowP.enc y) (RowP.row x) (RowP.row y) (qS (far m os dk x)) (qS (far m os dk y)) x.2.2 y.2.2).mono ?_;rintro e w' ⟨rfl,rfl⟩;exact⟨rfl,0,rfl⟩
 have eg:∀args w,(callFunc 132 args).run Tryz.prog w=.ok (.enter 132 args) w:=enters_of Tryz.func132 Kl rfl;have a7:=Any.slices_SortFunc Tryz.sortRows RowP.enc (λp=>RowP.one p) (λx y=>qE (RowP.row x) (RowP.row y)) (qF2 RowP.row) 132 #[] g 0 cap d w eg b8.lays hH d1 Oo;rw[a5]at a7;refine a7.mono ?_;rintro e w' ⟨rfl,M,m,os,⟨p1,-,p3⟩,hs,rfl⟩;have U:M.size=ls.length:=p1.trans a5;have V:M.toList.Perm d.toList:=by
  have e1:M.extract 0 ls.length=M:=by rw[<-U];exact Array.extract_size ..
  have e2:d.extract 0 ls.length=d:=by rw[<-a5];exact Array.extract_size ..
  rw[e1,e2]at p3;exact p3
 have a8:d.toList.map RowP.row=ls:=by
  refine List.ext_getElem? λi=>?_;by_cases hi:i<ls.length;have:=(I i hi).2;rw[getElem!_pos d i Oo]at this;rw[bK,Array.getElem?_toList,Array.getElem?_eq_getElem Oo,gE hi,Option.map_some,this,gD,gE hi];rfl;rw[gN Sy,gN Oo]
 have d2:d.toList.map RowP.enc=us:=by
  refine List.ext_getElem? λi=>?_;have hl:=h.len;by_cases hi:i<ls.length;have:=(I i hi).1;rw[getElem!_pos d i Oo]at this;rw[bK,Array.getElem?_toList,Array.getElem?_eq_getElem Oo,gE Oo,Option.map_some,this,gD,gE Oo];rfl;rw[gN Sy,gN Oo]
 have a6:(M.toList.map RowP.row).length=ls.length:=by simp[U]
 have a9:M.toList.Pairwise λp q=>∀g,(RowP.enc p).ownBlock=some g->(RowP.enc q).ownBlock≠some g:=by
  refine(V.symm.pairwise_iff λ{p q} h1 g h2 h3=>h1 g h3 h2).1 ?_;rw[List.pairwise_iff_getElem];intro i j hi O a3 g h1;simp only[Array.length_toList]at hi O;have b9:=(I i Oo).1;have c7:=(I j Oo).1;rw[getElem!_pos d i Oo]at b9;rw[getElem!_pos d j Oo]at c7;rw[Array.getElem_toList,b9]at h1;rw[Array.getElem_toList,c7];exact h.ap i j a3 Oo g h1
 refine⟨rfl,M.toList.map RowP.enc,M.toList.map RowP.row,⟨?_,Ss,λi hi=>?_,λi j a3 O g=>?_⟩,a6,λz=>?_,?_,?_⟩
 ·rw[a6];refine⟨by simp[U],Or.inr ⟨g,cap,_,rfl,hB,qGw _ _ _ _ _ _ _ K,b0,b1,?_,?_⟩⟩;unfold Sort.putCells;simp[c9];refine List.ext_getElem? λi=>?_;rw[Nat.mul_one];by_cases hi:i<ls.length;rw[List.getElem?_take_of_lt hi,Array.getElem?_toList];unfold Sort.putCells;rw[Array.getElem?_mapIdx,Array.getElem?_eq_getElem Oo,Option.map_some,if_pos ⟨nZ _,Oo⟩,bK,Array.getElem?_toList,Array.getElem?_eq_getElem Oo,Option.map_some,Nat.sub_zero,getElem!_pos M i Oo];rw[gN (by rw[bW];omega),gN Sy]
 ·rw[a6]at hi;have e1:(M.toList.map RowP.enc).getD i undef=RowP.enc M[i]:=by rw[gD,bK,Array.getElem?_toList,Array.getElem?_eq_getElem Oo];rfl
  have e2:(M.toList.map RowP.row).getD i []=RowP.row M[i]:=by rw[gD,bK,Array.getElem?_toList,Array.getElem?_eq_getElem Oo];rfl
  rw[e1,e2];exact far _ _ _ _
 ·rw[a6]at O;have e1:∀i (hi:i<ls.length),(M.toList.map RowP.enc).getD i undef=RowP.enc M[i]:=λi hi=>by rw[gD,bK,Array.getElem?_toList,Array.getElem?_eq_getElem Oo];rfl
  rw[e1 i Oo,e1 j O];have:=(List.pairwise_iff_getElem.1 a9) i j Sy Sy a3 g;rw[Array.getElem_toList,Array.getElem_toList]at this;exact this
 rw[(V.map RowP.row).mem_iff,a8];rw[List.pairwise_map,List.pairwise_iff_getElem];intro i j hi O a3;simp only[Array.length_toList]at hi O;have:=hs i j (nZ _) a3 Oo;rw[getElem!_pos M j Oo,getElem!_pos M i Oo]at this;rw[Array.getElem_toList,Array.getElem_toList];simpa[ltOf]using this;exact⟨rfl,rfl,rfl,qF3 _ _ _ _ _ _ _,λb hb=>qBR _ _ _ _ _ _ _ Oo Oo⟩
theorem JH{I lb:LI}(hl:I.length=lb.length)(h:∀i,i<I.length->I.getD i 0=lb.getD i 0):I=lb:=by
 refine List.ext_getElem hl λi K M=>?_;have:=h i K;rw[gD,gE K,gD,gE M]at this;exact this
theorem Qk(w:World)(va vb:Value)(I lb:LI)(ha:IS w va I)(hb:IS w vb lb)(hl:I.length<=1099511627776)(a5:lb.length<=1099511627776):
 Cl 102 #[va,vb] w λe w'=>e=.returned (.bool (decide (I=lb)))/\∃q,w'=w.drewN q:=by
 obtain⟨a,cap,rfl,hc⟩:=ha;obtain⟨a',a7,rfl,M⟩:=hb;by_cases hlen:I.length=lb.length
 ·have HF:Hh (∀j,j<I.length->¬I.getD j 0=lb.getD j 0->decide (I=lb)=false):=ay λj _ e=>by
   rw[decide_eq_false_iff_not];rintro rfl;exact e rfl
  have HT:Hh ((∀j,j<I.length->I.getD j 0=lb.getD j 0)->decide (I=lb)=true):=ay λh=>by rw[dE];exact JH hlen h
  generalize decide (I=lb)=res at *;rw[<-hlen]at M a5 ⊢;obtain⟨n,hn⟩:=Ex I.length;rw[<-hn]at hc M hl HF HT ⊢;have HC:=ay hc;have a6:=ay M;clear hc M hn hlen a5;go_enter Tryz.func102,Tryz.ntmps102;go_wp2_with fail;go_loopw [13] (λt wr=>∃j:Nat,j<=n/\t=ai j/\Hh (∃k,wr=w.drewN k)/\Hh (∀i,i<j->I.getD i 0=lb.getD i 0)) (λt _=>n-(intOf t).toNat);exact⟨0,nZ _,rfl,ay ⟨0,rfl⟩,ay (λi hi=>Oo)⟩;obtain⟨j,hj,rfl,hB,a3⟩:=hrel;by_cases a4:j<n
  ·have i1:(j:Int)<(n:Int):=Oo;rcases HC.o with h0|⟨b,o,rfl,O⟩;omega;rcases a6.o with h0|⟨b',o',rfl,K⟩;omega;have c1:wr.cell? (az b (o+j))=some (ai (I.getD j 0)):=by obtain⟨k,rfl⟩:=hB.o;exact O j a4
   have c2:wr.cell? (az b' (o'+j))=some (ai (lb.getD j 0)):=by obtain⟨k,rfl⟩:=hB.o;exact K j a4
   have fin:=HF.o j a4;have nxt:I.getD j 0=lb.getD j 0->Hh (∀i,i<j+1->I.getD i 0=lb.getD i 0):=λe=>ay λi hi=>by
    by_cases e2:i=j;rw[e2];exact e;exact a3.o i Oo
   clear O K a3;generalize I.getD j 0=x at *;generalize lb.getD j 0=y at *;by_cases U:x=y
   ·have V:=nxt U;subst U;clear fin nxt;have e0:(x != x)=false:=Ss;go_wp2_with fail;go_quiet (fail)
    go_wp2;go_roundw;exact⟨j+1,Oo,Gg,ay (zY _ hB.o),V⟩;exact Im
   have V:=ay (fin U);clear fin nxt;have e0:(x != y)=true:=by simp[U]
   go_wp2_with fail;go_quiet (fail)
   go_wp2;go_ret;exact⟨qK (by rw[V.o]),zY _ hB.o⟩
  obtain rfl:j=n:=Oo;have V:=ay (HT.o a3.o);have i1:¬((j:Int)<(j:Int)):=Oo;go_wp2;go_ret;exact⟨qK (by rw[V.o]),hB.o⟩
 have V:decide (I=lb)=false:=by rw[decide_eq_false_iff_not];rintro rfl;exact hlen rfl
 rw[V];have i1:¬((I.length:Int)=(lb.length:Int)):=Oo;have i2:((I.length:Int) != (lb.length:Int))=true:=Sy;clear hc M V;generalize I.length=m at *;generalize lb.length=m' at *;go_enter Tryz.func102,Tryz.ntmps102;go_wp2;go_ret;exact⟨rfl,0,rfl⟩
def Ap'(u v:Value):Prop:=∀g,u.ownBlock=some g->v.ownBlock≠some g
structure Cst(w wr:World)(B g cap:Nat)(us:List Value)(ls:LL)(k j:Nat)(uo:List Value):Prop where
 os:wr.os=w.os
 tape:wr.tape=w.tape
 output:wr.output=w.output
 size:wr.1.size=w.1.size
 far:∀b,b≠g->wr.1[b]?=w.1[b]?
 typ:∃cur,wr.1[g]?=some (.cells cur 24 (0,0))/\cur.size=cap
 len:uo.length=k
 lk:(cpt (ls.take j)).length=k
 kj:k<j
 jn:j<=ls.length
 head:∀p,p<k->wr.cell? (az g p)=some (uo.getD p undef)
 tail:∀p,j<=p+1->p<ls.length->wr.cell? (az g p)=some (us.getD p undef)
 each:∀p,p<k->w.ownsRow B 3 1 (uo.getD p undef) ((cpt (ls.take j)).getD p []).length (((cpt (ls.take j)).getD p []).map ai)
 ap:∀p q,p<q->q<k->Ap' (uo.getD p undef) (uo.getD q undef)
 apt:∀p q,p<k->j<=q->q<ls.length->Ap' (uo.getD p undef) (us.getD q undef)
section
variable {w wr:World} {B g cap k j:Nat} {us uo:List Value} {ls:LL}
theorem Cst.drewN(h:Cst w wr B g cap us ls k j uo)(m:Nat):Cst w (wr.drewN m) B g cap us ls k j uo:=⟨h.os,h.tape,h.output,h.size,h.far,h.typ,h.len,h.lk,h.kj,h.jn,h.head,h.tail,h.each,h.ap,h.apt⟩
theorem Cst.skip(h:Cst w wr B g cap us ls k j uo)(K:j<ls.length)(e:ls.getD (j-1) []=ls.getD j []):Cst w wr B g cap us ls k (j+1) uo:=by
 have U:=h.kj;obtain⟨i,rfl⟩:∃i,j=i+1:=⟨j-1,Oo⟩;have M:cpt (ls.take (i+1+1))=cpt (ls.take (i+1)):=qA1 K (by simpa using e);exact⟨h.os,h.tape,h.output,h.size,h.far,h.typ,h.len,by rw[M];exact h.lk,Oo,K,h.head,λp O I=>h.tail p Oo I,by rw[M];exact h.each,h.ap,λp q O hq I=>h.apt p q O Oo I⟩
theorem xk{α:Type}{l:List α}{x d:α}(h:i<l.length):(l++[x]).getD i d=l.getD i d:=by
 rw[gD,aL h,<-gD]
theorem x8{α:Type}{l:List α}{x d:α}(h:i=l.length):(l++[x]).getD i d=x:=by
 rw[gD,bQ Oo,show i-l.length=0 by omega];rfl
theorem Cst.keep(h:Cst w wr B g cap us ls k j uo)(V:RQ w B (.slice (some (az g 0)) ls.length cap) us ls)(O:j<ls.length)(e:¬ls.getD (j-1) []=ls.getD j []):Cst w (wr.setCell (az g k) (us.getD j undef)) B g cap us ls (k+1) (j+1) (uo++[us.getD j undef]):=by
 have a8:=h.kj;have hl:=h.len;have K:=h.lk;obtain⟨i,rfl⟩:∃i,j=i+1:=⟨j-1,Oo⟩;have hc:cpt (ls.take (i+1+1))=cpt (ls.take (i+1))++[ls.getD (i+1) []]:=JE O (by simpa using e);have a3:=h.tail k;refine⟨h.os,h.tape,h.output,by rw[World.size_setCell];exact h.size,λb hb=>(bD _ _ _ _ hb).trans (h.far b hb),?_,by simp[hl],by rw[hc];simp[K],Oo,O,λp hp=>?_,λp hp U=>?_,λp hp=>?_,λp q a4 hq=>?_,λp q hp hq U=>?_⟩;obtain⟨cur,M,h2⟩:=h.typ;exact⟨_,bI _ _ _ _ _ _ M,by simp[h2]⟩
 ·by_cases I:p=k
  ·subst I;rw[x8 hl.symm];obtain⟨cur,M,h2⟩:=h.typ;have hex:∃u,wr.cell? (az g p)=some u:=by
    rw[cell_of_row _ _ _ _ _ _ M];have a9:ls.length<=cap:=by
     rcases V.own.2 with ⟨e,-⟩|⟨g',a6,a7,e,-,-,a5,-⟩;cases e
     simp only[Value.slice.injEq]at e;obtain⟨-,-,rfl⟩:=e;exact a5
    exact⟨_,Array.getElem?_eq_getElem Oo⟩
   obtain⟨u,hu⟩:=hex;exact bG _ _ _ hu
  rw[xk Oo,bC _ _ _ _ (by intro e2;simp only[Addr.mk.injEq]at e2;omega)];exact h.head p Oo
 rw[bC _ _ _ _ (by intro e2;simp only[Addr.mk.injEq]at e2;omega)];exact h.tail p Oo U
 ·rw[hc];by_cases I:p=k;subst I;rw[x8 hl.symm,x8 K.symm];exact V.each _ O;rw[xk Oo,xk Oo];exact h.each p Oo
 ·rw[xk Oo];by_cases I:q=k;subst I;rw[x8 hl.symm];exact h.apt p _ Oo (nR _) O;rw[xk Oo];exact h.ap p q a4 Oo
 by_cases I:p=k;subst I;rw[x8 hl.symm];exact λg' M=>V.ap _ q Oo U g' M;rw[xk Oo];exact h.apt p q Oo Oo U
theorem Cst.start(V:RQ w B (.slice (some (az g 0)) ls.length cap) us ls){K:Nat}(hK:0<K)(a4:K<ls.length)(a5:∀i,i+1<K->¬ls.getD i []=ls.getD (i+1) [])(e:ls.getD (K-1) []=ls.getD K [])(m:Nat):Cst w (w.drewN m) B g cap us ls K (K+1) (us.take K):=by
 obtain⟨i,rfl⟩:∃i,K=i+1:=⟨K-1,Oo⟩;have hl:=V.len;have hc:cpt (ls.take (i+1+1))=ls.take (i+1):=(qA1 a4 (by simpa using e)).trans (Yq i Oo λq hq=>a5 q Oo);have I:∀p,p<ls.length->w.cell? (az g p)=some (us.getD p undef):=λp M=>by
  obtain⟨g',a3,O,-,U⟩:=V.get M;simp only[Value.slice.injEq,Option.some.injEq,Addr.mk.injEq,and_true,true_and]at O;obtain⟨rfl,-⟩:=O;exact U
 refine⟨rfl,rfl,rfl,rfl,λ_ _=>rfl,?_,by rw[bW];omega,by rw[hc,bW];omega,Oo,Oo,λp M=>by rw[getD_take M];exact I p Oo,λp _ hn=>I p hn,λp M=>?_,λp q a6 hq=>?_,λp q M hq hn=>?_⟩
 ·rcases V.own.2 with ⟨O,-⟩|⟨g',a3,cur,O,-,U,-,-,h2,-⟩;cases O
  simp only[Value.slice.injEq,Option.some.injEq,Addr.mk.injEq,and_true,true_and]at O;obtain⟨rfl,rfl⟩:=O;exact⟨cur,U,Oo⟩
 rw[hc,getD_take M,getD_take M];exact V.each p Oo;rw[getD_take Oo,getD_take hq];exact λg' U=>V.ap p q a6 Oo g' U;rw[getD_take M];exact λg' U=>V.ap p q Oo hn g' U
end
theorem Uq{e:TypeId}{c:Nat}:∀(vs:List Value) (o:Nat) (W:World) (m:Nat),(∃cur,W.1[c]?=some (.cells cur e (0,0))/\cur.size=m)->∃cur,(W.setCells c o vs).1[c]?=some (.cells cur e (0,0))/\cur.size=m
 |[],_,_,_,h=>h
 |_::r,o,_,m,h=>Uq r (o+1) _ m (by
  obtain⟨cur,I,K⟩:=h;exact⟨_,bI _ _ _ _ _ _ I,by simp[K]⟩)
theorem Ur{c b:Nat}(hb:b≠c):∀(vs:List Value) (o:Nat) (W:World),(W.setCells c o vs).1[b]?=W.1[b]?
 |[],_,_=>rfl
 |_::r,o,_=>(Ur hb r (o+1) _).trans (bD _ _ _ _ hb)
theorem VZ{c:Nat}:∀(vs:List Value) (o:Nat) (W:World),(W.setCells c o vs).1.size=W.1.size
 |[],_,_=>rfl
 |v::r,o,W=>(VZ r (o+1) (W.setCell (az c o) v)).trans (World.size_setCell _ _ _)
theorem Us{c:Nat}:∀(vs:List Value) (o:Nat) (W:World),(W.setCells c o vs).os=W.os/\(W.setCells c o vs).tape=W.tape/\(W.setCells c o vs).output=W.output
 |[],_,_=>⟨rfl,rfl,rfl⟩
 |v::r,o,W=>Us r (o+1) (W.setCell (az c o) v)
theorem Cst.fin{wr:World}{g cap k:Nat}{us uo:List Value}{ls:LL}(h:Cst w wr B g cap us ls k ls.length uo)(hR:RQ w B (.slice (some (az g 0)) ls.length cap) us ls)(vs:List Value):
 RQ (wr.setCells g k vs) B (.slice (some (az g 0)) k cap) uo (cpt ls)/\Below B w (wr.setCells g k vs):=by
 obtain⟨hB,a6,U⟩:B<=g/\ls.length<=cap/\cap<=maxLen:=by
  rcases hR.own.2 with ⟨e,-⟩|⟨g',a7,cur,e,a3,hc,h1,h2,-⟩;cases e
  simp only[Value.slice.injEq,Option.some.injEq,Addr.mk.injEq,true_and,and_true]at e;obtain⟨rfl,rfl⟩:=e;exact⟨a3,h1,h2⟩
 have hl:=h.len;have V:=h.lk;have a8:=h.kj;have I:=h.each;rw[tL]at V I;obtain⟨cur,K,a9⟩:=Uq vs k wr cap h.typ;have O:∀p,p<k->cur[p]?=some (uo.getD p undef):=λp hp=>by
  have h1:=h.head p hp;rw[<-World.cell?_setCells_out g vs k wr (az g p) (λ_ _=>Or.inl hp),cell_of_row _ _ _ _ _ _ K]at h1;exact h1
 have M:∀b,b≠g->(wr.setCells g k vs).1[b]?=w.1[b]?:=λb hb=>(Ur hb vs k wr).trans (h.far b hb);have a4:∃cur,w.1[g]?=some (.cells cur 24 (0,0)):=qN hR.own rfl;refine⟨⟨?_,Oo,λi hi=>?_,λi j a5 hj=>h.ap i j a5 Oo⟩,?_⟩
 ·rw[V];refine⟨Oo,Or.inr ⟨g,cap,cur,rfl,hB,K,Oo,U,Oo,?_⟩⟩;refine List.ext_getElem? λp=>?_;rw[Nat.mul_one];by_cases hp:p<k;rw[List.getElem?_take_of_lt hp,Array.getElem?_toList,O p hp,gD,gE Oo];rfl;rw[gN (by rw[bW];omega),gN Oo]
 ·exact qC (I i Oo) λq hq=>M q (by
   rintro rfl;exact own_ne (I i Oo) a4 Dd hq.symm)
 obtain⟨e1,e2,e3⟩:=Us (c:=g) vs k wr;exact⟨e1.trans h.os,e2.trans h.tape,e3.trans h.output,by rw[VZ,h.size];exact nR _,λb hb=>M b Oo⟩
theorem Zf(w:World)(B g cap:Nat)(us:List Value)(ls:LL)(V:RQ w B (.slice (some (az g 0)) ls.length cap) us ls)(hM:∀i,(ls.getD i []).length<=1099511627776)(hn:ls.length<=1000000):
 Cl 136 #[.slice (some (az g 0)) ls.length cap,.func (.func 102) #[] #[]] w λe w'=>∃v uo,e=.returned v/\RQ w' B v uo (cpt ls)/\Below B w w':=by
 have HR:=ay V;have eg:∀args w,(callFunc 102 args).run Tryz.prog w=.ok (.enter 102 args) w:=enters_of Tryz.func102 Kl rfl;have a7:Hh (∀q,RQ (w.drewN q) B (.slice (some (az g 0)) ls.length cap) us ls/\Below B w (w.drewN q)):=ay λq=>⟨⟨V.own,V.len,V.each,V.ap⟩,⟨rfl,rfl,rfl,nR _,λ_ _=>rfl⟩⟩;by_cases h2:ls.length<2
 ·have hc:cpt ls=ls:=by
   match ls,h2 with
   |[],_=>rfl
   |[x],_=>rfl
  have i1:(ls.length:Int)<2:=Oo;rw[hc];clear V hM;go_enter Tryz.func136,Tryz.ntmps136;go_wp2;go_ret;exact⟨_,us,rfl,HR.o,bJ _ _⟩
 obtain⟨c8⟩:ls.length<=cap/\True:=by
  rcases V.own.2 with ⟨e,-⟩|⟨g',c9,cur,e,d8,hc,h1,-⟩;cases e
  simp only[Value.slice.injEq]at e;obtain⟨-,-,rfl⟩:=e;exact⟨h1,trivial⟩
 have U:Hh (∀p,p<ls.length->w.cell? (az g p)=some (us.getD p undef)):=ay λp hp=>by
  obtain⟨g',c9,e1,-,h1⟩:=V.get hp;simp only[Value.slice.injEq,Option.some.injEq,Addr.mk.injEq,and_true,true_and]at e1;obtain⟨rfl,-⟩:=e1;exact h1
 have a5:Hh (∀p,p<ls.length->∃a c,us.getD p undef=.slice a (ls.getD p []).length c):=ay λp hp=>by
  rcases (V.each p hp).2 with ⟨e,hn⟩|⟨g,cap,cur,e,_⟩;exact⟨none,0,by rw[e,hn]⟩;exact⟨_,cap,e⟩
 have KQ:Hh (∀(W:World) (p q:Nat),(∀b,b≠g->W.1[b]?=w.1[b]?)->p<ls.length->q<ls.length->∀m,Cl 102 #[us.getD p undef,us.getD q undef] (W.drewN m) λe w'=>e=.returned (.bool (decide (ls.getD p []=ls.getD q [])))/\∃r,w'=(W.drewN m).drewN r):=ay λW p q hW hp hq m=>by
  have d4:∃cur,w.1[g]?=some (.cells cur 24 (0,0)):=qN V.own rfl;have mv:∀i,i<ls.length->IS (W.drewN m) (us.getD i undef) (ls.getD i []):=λi hi=>qS (w:=W.drewN m) (B:=B) (qC (w':=W.drewN m) (V.each i hi) λb hb=>hW b (by
   rintro rfl;exact own_ne (V.each i hi) d4 Dd hb.symm))
  exact Qk (W.drewN m) _ _ _ _ (mv p hp) (mv q hq) (hM p) (hM q)
 have a6:Hh ((∀i,i+1<ls.length->¬ls.getD i []=ls.getD (i+1) [])->cpt ls=ls):=ay λh=>by
  have:=Yq (ls:=ls) (ls.length-1) Oo (λi hi=>h i Oo);rw[show ls.length-1+1=ls.length by omega,tL]at this;exact this
 have b7:Hh (∀K m,0<K->K<ls.length->(∀i,i+1<K->¬ls.getD i []=ls.getD (i+1) [])->ls.getD (K-1) []=ls.getD K []->Cst w (w.drewN m) B g cap us ls K (K+1) (us.take K)):=ay λK m h1 h3 h4 h5=>Cst.start V h1 h3 h4 h5 m;clear V hM;have q2:¬((ls.length:Int)<2):=Oo;obtain⟨n,b8⟩:=Ex ls.length;have HN:=ay b8;rw[<-b8]at U a5 KQ a6 b7 a7 hn c8 h2 q2 ⊢;clear b8;go_enter Tryz.func136,Tryz.ntmps136;go_wp2_with fail;go_loopw [5] (λt wr=>∃k:Nat,1<=k/\k<=n/\t=ai k/\Hh (∃q,wr=w.drewN q)/\Hh (∀i,i+1<k->¬ls.getD i []=ls.getD (i+1) [])) (λt _=>n-(intOf t).toNat);exact⟨1,nR _,Oo,rfl,ay ⟨0,rfl⟩,ay (λi hi=>Oo)⟩;obtain⟨k,d9,hk,rfl,hQ,a8⟩:=hrel;by_cases a9:k<n
 ·have i1:(k:Int)<(n:Int):=Oo;have i2:((k:Int)-1).toNat=k-1:=Oo;have c1:wr.cell? (az g k)=some (us.getD k undef):=by obtain⟨q,rfl⟩:=hQ.o;exact U.o k a9
  have c2:wr.cell? (az g (k-1))=some (us.getD (k-1) undef):=by obtain⟨q,rfl⟩:=hQ.o;exact U.o (k-1) Oo
  have M:Hh (∀m,Cl 102 #[us.getD k undef,us.getD (k-1) undef] (wr.drewN m) λe w'=>e=.returned (.bool (decide (ls.getD k []=ls.getD (k-1) [])))/\∃r,w'=(wr.drewN m).drewN r):=ay λm=>by
   obtain⟨q,rfl⟩:=hQ.o;exact KQ.o (w.drewN q) k (k-1) (λ_ _=>rfl) a9 Oo m
  obtain⟨a1,k1,e1⟩:=a5.o k a9;obtain⟨a2,I,e2⟩:=a5.o (k-1) Oo;rw[e1]at c1 M;rw[e2]at c2 M;have i3:¬((k:Int)-1<0):=Oo;have i4:(k:Int)-1<(n:Int):=Oo;have i5:(0:Int)<=(k:Int)-1:=Oo;by_cases hd:ls.getD k []=ls.getD (k-1) []
  ·rw[decide_eq_true hd]at M;generalize (ls.getD k []).length=m1 at *;generalize (ls.getD (k-1) []).length=m2 at *;go_upto_region 6 with fail;go_quiet (first|(go_at_call 102;exact Calls.quiet_of (M.o _)))
   have b9:Hh (Cst w (wr.drewN nq) B g cap us ls k (k+1) (us.take k)):=ay (by
    obtain⟨q,rfl⟩:=hQ.o;rw[World.drewN_drewN];exact b7.o k (q+nq) Oo a9 a8.o hd.symm)
   clear c1 c2 M e1 e2 hQ a8 hd b7 a6 a7 U i2 i3 i4 i5;generalize wr.drewN nq=W5 at b9 ⊢;have q5:¬cap=k:=Oo;have q6:k<=cap:=Oo;go_wp2_with fail;go_loopw [5,7] (λt5 t7 wr=>∃O I:Nat,1<=I/\k+I<=n/\t5=ai O/\t7=ai I/\Hh (∃uo,Cst w wr B g cap us ls O (k+I) uo)) (λ_ t7 _=>n-(intOf t7).toNat);exact⟨k,1,nR _,Oo,rfl,rfl,ay ⟨_,b9.o⟩⟩;clear b9;obtain⟨O,I,e0,d6,rfl,rfl,HT⟩:=hrel;obtain⟨uo,hC⟩:=HT.o;have HC:=ay hC;have e3:=hC.kj;clear HT hC;have d0:Hh (∃u,wr.cell? (az g O)=some u):=ay (by
    obtain⟨cur,h1,h3⟩:=HC.o.typ;rw[cell_of_row _ _ _ _ _ _ h1];exact⟨_,Array.getElem?_eq_getElem Oo⟩)
   have f1:∀p,wr.frozen? (az g p)=false:=λp=>by
    obtain⟨cur,h1,-⟩:=HC.o.typ;unfold World.frozen?;rw[h1];simp
   by_cases b0:k+I<n
   ·have j1:(I:Int)<((n-k:Nat):Int):=Oo;have j2:((I:Int)-1).toNat=I-1:=Oo;have j3:¬((I:Int)-1<0):=Oo;have j4:(I:Int)-1<((n-k:Nat):Int):=Oo;have j5:(0:Int)<=(I:Int)-1:=Oo;have j6:(O:Int)<(n:Int):=Oo;have d1:wr.cell? (az g (k+I))=some (us.getD (k+I) undef):=HC.o.tail (k+I) Oo (by rw[<-HN.o];omega);have d2:wr.cell? (az g (k+(I-1)))=some (us.getD (k+(I-1)) undef):=HC.o.tail (k+(I-1)) Oo (by rw[<-HN.o];omega);have M:=ay (KQ.o wr (k+I) (k+(I-1)) HC.o.far b0 Oo);obtain⟨a3,k3,e1⟩:=a5.o (k+I) b0;obtain⟨a4,k4,e2⟩:=a5.o (k+(I-1)) Oo;have d5:=ay e1;rw[e1]at d1 M;rw[e2]at d2 M;clear e1 e2;have ej:k+I-1=k+(I-1):=Oo;by_cases hd:ls.getD (k+I) []=ls.getD (k+(I-1)) []
    ·rw[decide_eq_true hd]at M;have b1:=ay (HC.o.skip (by rw[<-HN.o];exact b0) (by rw[ej];exact hd.symm));generalize (ls.getD (k+I) []).length=m3 at *;generalize (ls.getD (k+(I-1)) []).length=m4 at *;clear ej hd;go_upto_region 11 with fail;go_quiet (first|(go_at_call 102;exact Calls.quiet_of (M.o _)))
     have c7:=ay (b1.o.drewN nq);go_wp2_with fail;go_roundw;exact⟨O,I+1,Oo,Oo,rfl,Gg,ay ⟨_,c7.o⟩⟩;exact Im
    rw[decide_eq_false hd]at M;have b1:Hh (∀q,Cst w ((wr.drewN q).setCell (az g O) (us.getD (k+I) undef)) B g cap us ls (O+1) (k+I+1) (uo++[us.getD (k+I) undef])):=ay λq=>(HC.o.drewN q).keep HR.o (by rw[<-HN.o];exact b0) (by rw[ej];exact λe=>hd e.symm);rw[d5.o]at b1;obtain⟨u9,d3⟩:=d0.o;have f3:=f1 O;generalize (ls.getD (k+I) []).length=m3 at *;generalize (ls.getD (k+(I-1)) []).length=m4 at *;clear ej hd f1;go_upto_region 11 with fail;go_quiet (first|(go_at_call 102;exact Calls.quiet_of (M.o _)))
    have c7:=ay (b1.o nq);go_wp2_with fail;go_roundw;exact⟨O+1,I+1,Oo,Oo,Gg,Gg,ay ⟨_,c7.o⟩⟩;exact Im
   have j1:¬((I:Int)<((n-k:Nat):Int)):=Oo;obtain rfl:I=n-k:=Oo;have HF:Hh (RQ (wr.setCells g O (List.replicate (n-O) sn)) B (.slice (some (az g 0)) O cap) uo (cpt ls)/\Below B w (wr.setCells g O (List.replicate (n-O) sn))):=ay (by
    have h:=HC.o;rw[show k+(n-k)=ls.length by rw[<-HN.o];omega]at h;exact h.fin HR.o _)
   have d7:∀ty,(Builtin.clear_ #[23] ty #[.slice (some (az g O)) (n-O) (cap-O)]).run Tryz.prog wr=.ok (.tuple #[]) (wr.setCells g O (List.replicate (n-O) sn)):=λty=>
    Lib.run_clear_slice wr 23 24 ty sn Tryz.underlying23 (λ_=>Kl) rfl rfl g O (n-O) (cap-O) Oo (λj hj=>by
     obtain⟨cur,h1,h3⟩:=HC.o.typ;rw[cell_of_row _ _ _ _ _ _ h1,Array.getElem?_eq_getElem Oo];rfl) (λj _=>f1 _)
   have q7:¬cap=O:=Oo;have q8:O<=cap:=Oo;have q9:O<=n:=Oo;clear HC d0 f1;go_wp2_with fail;go_ret;exact⟨_,rfl,⟨uo,HF.o.1⟩,HF.o.2⟩
  rw[decide_eq_false hd]at M;have hN:Hh (∀i,i+1<k+1->¬ls.getD i []=ls.getD (i+1) []):=ay λi hi=>by
   by_cases e:i+1<k;exact a8.o i e;obtain rfl:k=i+1:=Oo;simpa using λe=>hd e.symm
  generalize (ls.getD k []).length=m1 at *;generalize (ls.getD (k-1) []).length=m2 at *;clear hd;go_upto_region 6 with fail;go_quiet (first|(go_at_call 102;exact Calls.quiet_of (M.o _)))
  go_wp2_with fail;go_roundw;exact⟨k+1,Oo,Oo,Gg,ay (zY _ hQ.o),hN⟩;exact Im
 obtain rfl:k=n:=Oo;have i1:¬((k:Int)<(k:Int)):=Oo;have HF:Hh (∃q,wr=w.drewN q/\RQ (w.drewN q) B (.slice (some (az g 0)) k cap) us (cpt ls)/\Below B w (w.drewN q)):=ay (by
  obtain⟨q,e⟩:=hQ.o;exact⟨q,e,by rw[a6.o a8.o];exact(a7.o q).1,(a7.o q).2⟩)
 go_wp2_with fail;go_ret;obtain⟨q,rfl,h1,h3⟩:=HF.o;exact⟨_,rfl,⟨us,h1⟩,h3⟩
def zq(rows:LL)(places:LI):LL:=rows.map λr=>atP r places
theorem qEZ(rows:LL)(places:LI):(zq rows places).length=rows.length:=by simp[zq]
theorem qDI{rows:LL}{places:LI}{j:Nat}(I:j<rows.length):zq (rows.take (j+1)) places=zq (rows.take j) places++[atP (rows.getD j []) places]:=by
 unfold zq;rw[tA,gE I,gD,gE I,mA];rfl
theorem Q5(w:World)(vr vp:Value)(rows:LL)(places:LI)(hr:ISS w vr rows)(hp:IS w vp places)(hn:rows.length<=1000000)(e5:places.length<=1000)(b8:∀r∈rows,∀p∈places,0<=p/\p<r.length):
 Cl 115 #[vr,vp] w λe w'=>∃v uo,e=.returned v/\RQ w' w.1.size v uo (srt (zq rows places))/\Bl w w':=by
 obtain⟨iS,M,b9,c7,c8⟩:=info_parts Tryz.infoIS;obtain⟨ar,cr,rfl,hc⟩:=hr;have HC:Hh (∀W,Bl w W->∀j,j<rows.length->∃(b o:Nat) (u:Value),ar=some (az b o)/\W.cell? (az b (o+j))=some u/\IS W u (rows.getD j [])):=ay λW hW j M=>by
  rcases hc with h0|⟨b,o,rfl,h⟩;omega;obtain⟨u,h1,h2⟩:=h j M;exact⟨b,o,u,rfl,(hW.cell (bL w _ h1)).trans h1,h2.below hW⟩
 have KV:Hh (∀W u j,Bl w W->j<rows.length->IS W u (rows.getD j [])->Cl 77 #[u,vp] W λe w'=>∃v,e=.returned v/\w'.ownsRow W.1.size 3 1 v (atP (rows.getD j []) places).length ((atP (rows.getD j []) places).map ai)/\Bl W w'):=ay λW u j hW M hu=>
  yZ W u vp _ places hu (hp.below hW) e5 (b8 _ (by rw[gD,gE M];exact gM _))
 have HP:Hh (∀j,j<rows.length->zq (rows.take (j+1)) places=zq (rows.take j) places++[atP (rows.getD j []) places]):=ay λj M=>qDI M;have a9:Hh (∀j,j<=rows.length->(zq (rows.take j) places).length=j):=ay λj M=>by rw[qEZ,bW];omega
 have c9:Hh (zq (rows.take rows.length) places=zq rows places):=ay (by rw[tL]);have d0:Hh (zq (rows.take 0) places=[]):=ay rfl;have HM:Hh (∀i,((zq rows places).getD i []).length<=1099511627776):=ay λi=>by
  unfold zq;rw[gD,bK];cases h:rows[i]? with
  |none=>simp
  |some r=>show(atP r places).length<=_;rw[qBD];omega
 obtain⟨ap,cp,rfl,-⟩:=hp;clear hc b8;obtain⟨n,d1⟩:=Ex rows.length;rw[<-d1]at HC KV HP a9 c9 hn ⊢;clear d1;generalize places.length=np at *;go_enter Tryz.func115,Tryz.ntmps115;go_wp2_with (at_make;refine wpList_make_own _ rfl _ _ 23 rfl w.1.size 24 iS sn 1 Tryz.underlying23 M b9 c7 _ _ _ n rfl rfl rfl ?b2 ?b3 (nR _) ?_)
 case b2=>rw[c8];omega
 case b3=>unfold maxLen;omega
 intro w0 V K;have b0:Hh (RQ w0 w.1.size (.slice (some (az w.1.size 0)) 0 n) [] []/\Bl w w0):=ay ⟨⟨V,rfl,λi hi=>by simp at hi,λi j _ M=>by simp at M⟩,(bJ _ _).grown K (nR _) (λj M=>by cases M)⟩;clear K V;go_wp2_with fail;go_loopw [5,13] (λu t wr=>∃(j g cap:Nat),j<=n/\t=ai j/\u=.slice (some (az g 0)) j cap/\Hh (∃uo,RQ wr w.1.size (.slice (some (az g 0)) j cap) uo (zq (rows.take j) places)/\Bl w wr)) (λ_ t _=>n-(intOf t).toNat);exact⟨0,w.1.size,n,nZ _,rfl,rfl,ay ⟨[],by rw[d0.o];exact b0.o.1,b0.o.2⟩⟩;clear b0 d0;obtain⟨j,g,cap,e6,rfl,rfl,HT⟩:=hrel;obtain⟨uo,hQ,hB⟩:=HT.o;have HQ:=ay hQ;have HB:=ay hB;clear HT hQ hB;by_cases b1:j<n
 ·have i1:(j:Int)<(n:Int):=Oo;obtain⟨b,o,u,ea,c1,hu⟩:=HC.o wr HB.o j b1;subst ea;have d2:=ay (KV.o wr u j HB.o b1 hu);have e7:=ay (HP.o j b1);have O:=a9.o j e6;obtain⟨au,cu,rfl,-⟩:=hu;generalize (rows.getD j []).length=lr at *;generalize atP (rows.getD j []) places=pr at *;go_wp2_with fail;refine d2.o.mono ?_;rintro e w2 ⟨v2,rfl,a4,U⟩;have d3:=ay (HQ.o.below U);have a5:=ay (bt HB.o U);have e8:=ay (qF a4 HB.o.size);have e9:Hh (∀i,i<(zq (rows.take j) places).length->∀g,(uo.getD i undef).ownBlock=some g->v2.ownBlock≠some g):=ay λi hi g h1 h2=>by
   have a1:=((HQ.o.each i hi).lt g h1).2;have a2:=(a4.lt g h2).1;omega
  obtain⟨a2,k2,e2⟩:∃a c,v2=.slice a pr.length c:=by
   rcases a4.2 with ⟨e,hn⟩|⟨g,cap,cur,e,_⟩;exact⟨none,0,by rw[e,hn]⟩;exact⟨_,cap,e⟩
  subst e2;have a6:=a5.o.size;clear a4 U d2 c1 HQ HB;have d4:w2.ownsRow w.1.size 24 1 (.slice (some (az g 0)) j cap) j uo:=by have:=d3.o.own;rw[O]at this;exact this
  have d5:=ay d4;clear d4;go_wp2_with (first|(at_builtin;refine wpList_append_lies _ rfl _ _ 23 rfl w.1.size 24 iS sn 1 24 Tryz.underlying23 M b9 c7 c8 rfl Dd (.slice (some (az g 0)) j cap) _ uo rfl (d5.o.alloc _) (az _ 0) 1 1 [.slice a2 pr.length k2] rfl rfl (qH _ _ _) (λu hu=>by simp at hu;subst hu;rfl) Dd Um Oo Sy _ rfl ?_;intro g3 cp3 w3 a3 I d6 d7)|fail);have HN:Hh (∃f7,RQ w3 w.1.size (.slice (some (az g3 0)) (j+1) cp3) f7 (zq (rows.take (j+1)) places)/\Bl w w3):=ay ⟨_,by rw[e7.o];exact d3.o.step e8.o e9.o (by rw[O];exact a3) I,(a5.o.alloc a6 _).grown I Sy (λq hq=>(d5.o.lt q hq).1)⟩;clear a3 I d6 d7;go_roundw;exact⟨j+1,g3,cp3,Oo,Gg,rfl,HN⟩;exact Im
 obtain rfl:j=n:=Oo;have i1:¬((j:Int)<(j:Int)):=Oo;have O:=a9.o j (nR _);rw[c9.o]at HQ O;have KS:=ay (VP wr w.1.size g cap uo (zq rows places) (by rw[O];exact HQ.o) (λi _=>HM.o i) Oo);rw[O]at KS;go_wp2_with fail;refine KS.o.mono ?_;rintro e w2 ⟨rfl,f8,a7,d8,a8,b7,a6,U⟩;have a5:Hh (Bl w w2):=ay (HB.o.trans U);have d9:∀i,(a7.getD i []).length<=1099511627776:=λi=>by
  rw[gD];cases h:a7[i]? with
  |none=>simp
  |some r=>
   obtain⟨q,hq,e⟩:=gO ((b7 r).1 (List.mem_of_getElem? h));have:=HM.o q;rw[gD,gE hq,e]at this;exact this
 have KC:=ay (Zf w2 w.1.size g cap f8 a7 (by rw[a8];exact d8) d9 (by rw[a8];omega));have e0:a7.Pairwise λa b=>¬qE b a<0:=a6.imp λh=>Oo;rw[a8,qF4 e0 b7]at KC;clear KS d8 U a6 e0 b7 d9 a8;go_wp2_with fail;refine KC.o.mono ?_;rintro e w3 ⟨v3,e1,rfl,e3,e4⟩;have HF:Hh (RQ w3 w.1.size v3 e1 (srt (zq rows places))/\Bl w w3):=ay ⟨e3,a5.o.trans e4⟩;clear e3 e4;go_wp2_with fail;go_ret;exact⟨_,e1,rfl,HF.o.1,HF.o.2⟩
end Go.Proofs.YtcnfapnfmnolbaaGreat
