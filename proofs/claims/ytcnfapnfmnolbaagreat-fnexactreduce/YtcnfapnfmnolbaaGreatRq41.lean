import Derived.Ground.SlgmProg
import Derived.Lib.SlKeysI
import Derived.Shelf.SortM.Plain
import Derived.Shelf.SortM.SortNone
import Derived.Test.YtcnfapnfmnolbaaGreatProg
import Derived.Test.YtcnfapnfmnolbaaGreatRq33
import Derived.Test.YtcnfapnfmnolbaaGreatRq40
set_option maxHeartbeats 40000000
set_option maxRecDepth 1000000
namespace Go.Proofs
open Go.Shelf
def Tryz.sortA_ren : Go.Shelf.Ren := ⟨λ| 5 => 127 | 8 => 154 | 7 => 153 | 19 => 189 | 20 => 190 | 10 => 181 | 11 => 182 | 12 => 183 | 13 => 184 | 14 => 185 | 15 => 186 | 16 => 155 | 17 => 187 | 18 => 188 | 30 => 207 | 31 => 208 | 32 => 209 | 33 => 210 | 34 => 211 | 35 => 191 | 40 => 217 | n => n, λ| 23 => 24 | 25 => 3 | 3 => 3 | 32 => 170 | 22 => 24 | 0 => 0 | 44 => 213 | 46 => 216 | 4 => 4 | 36 => 232 | 35 => 231 | 41 => 164 | 5 => 5 | 9 => 9 | 53 => 248 | 57 => 252 | 63 => 256 | 64 => 257 | n => n, λ| n => n⟩
theorem Tryz.sortA : Go.Proofs.SlLaysM.n5 Tryz.prog Tryz.sortA_ren := {
  mixed := by kernel_rfl
  f5 := ⟨Tryz.f127.name, by decide, Tryz.func127.trans (congrArg some (by kernel_rfl))⟩
  f7 := ⟨Tryz.f153.name, by decide, Tryz.func153.trans (congrArg some (by kernel_rfl))⟩
  f8 := Tryz.func154.trans (congrArg some (by kernel_rfl))
  f10 := ⟨Tryz.f181.name, by decide, Tryz.func181.trans (congrArg some (by kernel_rfl))⟩
  f11 := ⟨Tryz.f182.name, by decide, Tryz.func182.trans (congrArg some (by kernel_rfl))⟩
  f12 := ⟨Tryz.f183.name, by decide, Tryz.func183.trans (congrArg some (by kernel_rfl))⟩
  f13 := ⟨Tryz.f184.name, by decide, Tryz.func184.trans (congrArg some (by kernel_rfl))⟩
  f14 := ⟨Tryz.f185.name, by decide, Tryz.func185.trans (congrArg some (by kernel_rfl))⟩
  f15 := ⟨Tryz.f186.name, by decide, Tryz.func186.trans (congrArg some (by kernel_rfl))⟩
  f16 := ⟨Tryz.f155.name, by decide, Tryz.func155.trans (congrArg some (by kernel_rfl))⟩
  f17 := ⟨Tryz.f187.name, by decide, Tryz.func187.trans (congrArg some (by kernel_rfl))⟩
  f18 := ⟨Tryz.f188.name, by decide, Tryz.func188.trans (congrArg some (by kernel_rfl))⟩
  f19 := Tryz.func189.trans (congrArg some (by kernel_rfl))
  f20 := Tryz.func190.trans (congrArg some (by kernel_rfl))
  f30 := ⟨Tryz.f207.name, by decide, Tryz.func207.trans (congrArg some (by kernel_rfl))⟩
  f31 := Tryz.func208.trans (congrArg some (by kernel_rfl))
  f32 := Tryz.func209.trans (congrArg some (by kernel_rfl))
  f33 := ⟨Tryz.f210.name, by decide, Tryz.func210.trans (congrArg some (by kernel_rfl))⟩
  f34 := ⟨Tryz.f211.name, by decide, Tryz.func211.trans (congrArg some (by kernel_rfl))⟩
  f35 := ⟨Tryz.f191.name, by decide, Tryz.func191.trans (congrArg some (by kernel_rfl))⟩
  f40 := ⟨Tryz.f217.name, by decide, Tryz.func217.trans (congrArg some (by kernel_rfl))⟩
  t0 := Tryz.underlying0
  a0 := Tryz.isAgg0
  z0 := Tryz.sizeOf0
  v0 := Tryz.zeroValue0
  t3 := Tryz.underlying3
  a3 := Tryz.isAgg3
  z3 := Tryz.sizeOf3
  v3 := Tryz.zeroValue3
  t4 := Tryz.underlying4
  a4 := Tryz.isAgg4
  z4 := Tryz.sizeOf4
  v4 := Tryz.zeroValue4
  t5 := Tryz.underlying5
  a5 := Tryz.isAgg5
  z5 := Tryz.sizeOf5
  v5 := Tryz.zeroValue5
  t9 := Tryz.underlying9
  a9 := Tryz.isAgg9
  z9 := Tryz.sizeOf9
  v9 := Tryz.zeroValue9
  t22 := Tryz.underlying24
  a22 := Tryz.isAgg24
  z22 := Tryz.sizeOf24
  v22 := Tryz.zeroValue24
  t23 := Tryz.underlying24
  a23 := Tryz.isAgg24
  z23 := Tryz.sizeOf24
  v23 := Tryz.zeroValue24
  t25 := Tryz.underlying3
  a25 := Tryz.isAgg3
  z25 := Tryz.sizeOf3
  v25 := Tryz.zeroValue3
  t32 := Tryz.underlying170
  a32 := Tryz.isAgg170
  z32 := Tryz.sizeOf170
  v32 := Tryz.zeroValue170
  t35 := Tryz.underlying231
  a35 := Tryz.isAgg231
  z35 := Tryz.sizeOf231
  v35 := Tryz.zeroValue231
  t36 := Tryz.underlying232
  a36 := Tryz.isAgg232
  z36 := Tryz.sizeOf232
  v36 := Tryz.zeroValue232
  t41 := Tryz.underlying164
  a41 := Tryz.isAgg164
  z41 := Tryz.sizeOf164
  v41 := Tryz.zeroValue164
  t44 := Tryz.underlying213
  a44 := Tryz.isAgg213
  z44 := Tryz.sizeOf213
  v44 := Tryz.zeroValue213
  t46 := Tryz.underlying216
  a46 := Tryz.isAgg216
  z46 := Tryz.sizeOf216
  v46 := Tryz.zeroValue216
  t53 := Tryz.underlying248
  a53 := Tryz.isAgg248
  z53 := Tryz.sizeOf248
  v53 := Tryz.zeroValue248
  t57 := Tryz.underlying252
  a57 := Tryz.isAgg252
  z57 := Tryz.sizeOf252
  v57 := Tryz.zeroValue252
  t63 := Tryz.underlying256
  a63 := Tryz.isAgg256
  z63 := Tryz.sizeOf256
  v63 := Tryz.zeroValue256
  t64 := Tryz.underlying257
  a64 := Tryz.isAgg257
  z64 := Tryz.sizeOf257
  v64 := Tryz.zeroValue257 }
end Go.Proofs
namespace Go.Proofs.YtcnfapnfmnolbaaGreat
open Go.RowKit Meet Go.Shelf
variable {vs:LI}{B v:Nat}{t:TbV}{W w:World}
attribute [local go_sem] Oper.semAt_some
theorem UJ(w:World)(a:Option Addr)(n c:Nat):
 Cl 104 #[.slice a n c] w λe w'=>e=.returned (.func (.func 128) #[] #[.pointer (some (az w.1.size 0))])/\w'=w.alloc (.cells #[.slice a n c] 24):=by
 go_enter Tryz.func104,Tryz.ntmps104;go_wp2;go_ret;exact⟨rfl,rfl⟩
theorem UK(w:World)(bS:Nat)(vs:Value)(ls:LI)(hb:w.1[bS]?=some (.cells #[vs] 24 (0,0)))(h:IS w vs ls)(hl:ls.length<=1099511627776):
 Gives Tryz.prog 128 #[.pointer (some (az bS 0))] (λx:Int=>#[ai x]) (λ_=>Below w.1.size) (λ_ _ _=>True) (λpre x b _ _=>b=x/\pre.length<ls.length) ls w:=by
 intro l J Jx W M b8 b9 hJ c7 hY h0;show Calls _ _ #[.func (.yield l) #[] #[],.pointer (some (az bS 0))] W _;have a6:W.cell? (az bS 0)=some vs:=by rw[cell_of_row _ _ _ _ _ _ ((M.block _ (qW hb)).trans hb)];rfl
 obtain⟨a,cap,rfl,hc⟩:=h;have HC:Hh (∀W',Bl w W'->∀j,j<ls.length->∃b o,a=some (az b o)/\W'.cell? (az b (o+j))=some (ai (ls.getD j 0))):=ay λW' a7 j hj=>by
  rcases hc with h0|⟨b,o,rfl,h⟩;omega;exact⟨b,o,rfl,xL a7 (h j hj)⟩
 have HT:Hh (∀j,j<ls.length->ls.take (j+1)=ls.take j++[ls.getD j 0]):=ay λj hj=>qy hj;have U:Hh (ls.take ls.length=ls):=ay (tL);have I:=ay hY;have HJ:=ay hJ;have a8:=ay M;have a9:Hh (J (ls.take 0) W):=ay h0;clear hb hc hY hJ h0 M;obtain⟨n,hn⟩:=Ex ls.length;rw[<-hn]at hl HC HT U a6 I;have b0:Hh (∀j,j<=n->(ls.take j).length=j):=ay λj hj=>by rw[bW];omega
 clear hn;go_enter Tryz.func128,Tryz.ntmps128;go_wp2_with fail;go_loopw [7] (λt wr=>∃(j:Nat),j<=n/\t=ai j/\Hh (∃X,J (ls.take j) X/\KT W.1.size X wr/\Bl w wr)) (λt _=>n-(intOf t).toNat);exact⟨0,nZ _,rfl,ay ⟨W,a9.o,KT.refl _ _,a8.o⟩⟩;obtain⟨j,b1,rfl,K⟩:=hrel;by_cases O:j<n
 ·have i1:(j:Int)<(n:Int):=Oo;obtain⟨X,V,h2,h3⟩:=K.o;obtain⟨b,o,ea,c1⟩:=HC.o wr h3 j O;subst ea;obtain⟨fn,tmps,assign,body,hy,hR⟩:=I.o (ls.take j) (ls.getD j 0) (ls.getD j 0) X wr V h2 ⟨rfl,by rw[b0.o j b1];exact O⟩;have HN:Hh (∀Z,J (ls.take j++[ls.getD j 0]) Z->Below w.1.size wr Z->∃X,J (ls.take (j+1)) X/\KT W.1.size X Z/\Bl w Z):=ay λZ g1 g2=>⟨Z,by rw[HT.o j O];exact g1,KT.refl _ _,h3.trans g2⟩;have HR:=ay hR;clear hR V h2 h3 K HC I;generalize ls.getD j 0=x at *;refine(wpIn_wide (n:=0)).1 ?_;gi_wp2
  refine⟨rfl,?_⟩;refine HR.o.mono ?_;rintro e w9 (⟨rfl,a3,a4⟩|⟨rfl,a5,-⟩)
  ·have b7:=ay (HN.o w9 a3 a4);clear a3 a4 hy HR HN;gi_wp2
   go_wp2_with fail;go_roundw;exact⟨j+1,Oo,Gg,b7⟩;exact Im
  clear hy HR HN;gi_wp2
  go_wp2_with fail;refine bodyPost_ret (P:=Tryz.prog) (fn:=Tryz.f128) (R:=λe W'=>(∃v,e=.returned v)/\(J ls W'∨Jx W')) (results_none rfl _ _ _) rfl ?_;exact⟨⟨_,rfl⟩,Or.inr a5⟩
 obtain rfl:j=n:=Oo;have i1:¬((j:Int)<(j:Int)):=Oo;have HF:Hh (J ls wr):=ay (by
  obtain⟨X,V,h2,h3⟩:=K.o;rw[U.o]at V;exact HJ.o _ _ _ V h2)
 clear K HC I;go_wp2_with fail;go_end0
 exact⟨⟨_,rfl⟩,Or.inl HF.o⟩
theorem Gives.later{α β:Type}{P:Program}{gf:Nat}{lb:Array Value}{I:β->Array Value}{M O:Nat->World->World->Prop}{K:List α->α->β->World->World->Prop}{xs:List α}{w':World}(h:Gives P gf lb I M O K xs w)(hb:Bl w w'):Gives P gf lb I M O K xs w':=
 λl J U W V h1 h2=>h l J U W (hb.trans (V.mono hb.size)) h1 (bM hb.size h2)
theorem YA(w:World)(gf:Nat)(lb:Array Value)(ls:LI)(hl:ls.length<=1048576)(eg:∀args W,(callFunc gf args).run Tryz.prog W=.ok (.enter gf args) W)
 (a5:Gives Tryz.prog gf lb (λx:Int=>#[ai x]) (λ_=>Below w.1.size) (λ_ _ _=>True) (λpre x b _ _=>b=x/\pre.length<ls.length) ls w):
 Cl 152 #[sn,.func (.func gf) #[] lb] w λe w'=>∃v,e=.returned v/\w'.ownsRow w.1.size 3 1 v ls.length (ls.map ai)/\Bl w w':=by
 obtain⟨U,M⟩:=Ex (w.alloc (.cells #[sn] 24));have a6:Bl w U:=by rw[M];exact qD (bJ _ _) _
 have b1:U.1[w.1.size]?=some (.cells #[sn] 24 (0,0)):=by rw[M];exact World.alloc_heap_new w _
 have a7:U.1.size=w.1.size+1:=by rw[M];simp
 refine(callsIn_wide (n:=0)).1 (callsIn_of_wp_marks Tryz.func152 rfl trivial ?_ rfl);simp only[Tryz.ntmps152,List.size_toArray,List.length_cons,List.length_nil,Nat.reduceAdd,Nat.reduceSub,Array.replicate_succ,Array.replicate_zero,List.push_toArray,List.append_toArray,List.nil_append,List.cons_append];refine(wpIn_wide (n:=0)).2 ?_;obtain⟨i0,hi,b7,b8,b9⟩:=info_parts Tryz.infoInt;go_wp2_with fail;rw[<-M];clear M;refine(wpIn_wide (n:=0)).1 ?_;have d6:=ay a7;have d7:w.1.size<U.1.size:=Oo;clear a7;obtain⟨II,V⟩:∃II:LI->World->Prop,II=λpre W=>(∃v,Boxed W w.1.size 24 v/\W.ownsRow w.1.size 3 1 v pre.length (pre.map ai))/\Bl w W:=⟨_,rfl⟩;have a3:∀s X Y,II s X->KT U.1.size X Y->II s Y:=λs X Y hX hk=>by
  rw[V]at hX ⊢;obtain⟨⟨v,hv,ho⟩,hb⟩:=hX;exact⟨⟨v,(hk.cel _ _ _ _ hv Dd Dd).trans hv,qC ho λg hg=>by
   obtain⟨cur,hc⟩:=qN ho hg;exact hk.cel g cur _ _ hc Dd Dd⟩,hb.trans (hk.bel.mono Oo)⟩
 refine jh (α:=Int) (β:=Int) (gf:=gf) (lb:=lb) rfl eg (a5.later a6) (λ_=>rfl)
  (λh1 h2=>Below.trans h1 h2) (λl W o o' h1 h2 h3=>(KT.put (B:=w.1.size) o' Oo h2 h3).bel) (λ_ _ _=>trivial)
  II (λ_ _=>False) a3 (λ_ _ _ h _=>h) (by rw[V];exact⟨⟨_,b1,oN _ _ _ _⟩,a6⟩)
  (λl pre x b a' W=>II pre W/\pre.length<ls.length/\a'={ tmps:=#[sn,.func (.func gf) #[] lb,.pointer (some (az w.1.size 0)),undef,sn,ai x,.func (.func gf) #[] lb,ai x,undef,undef,undef,undef,undef],defers:=[] })
  (λl pre x b a' W o o' h1 h2 h3 h4=>⟨a3 _ _ _ h1.1 (KT.put (B:=U.1.size) o' h2 h3 h4),h1.2⟩)
  ?assign ?body ?done ?stop
 case assign=>
  rintro l pre x b X Y K c7 hI hk ⟨rfl,a8⟩ ⟨rr,c8⟩ hK;have c9:=a3 _ _ _ hI hk;gi_wp2
  exact hK _ _ (KeepsFrom.refl _ _) (bJ _ _) ⟨c9,a8,rfl⟩
 case body=>
  rintro l pre x b a' W c7 ⟨rr,c8⟩ ⟨hI,a8,rfl⟩;rw[V]at hI ⊢;obtain⟨⟨v,hv,I⟩,hB⟩:=hI;have d0:=hv.cell;gi_wp2_with (first
   |(gi_at_builtin;refine wpListIn_append_own _ rfl _ _ 24 rfl w.1.size 3 i0 (ai 0) 1 8 Tryz.underlying24 hi b7 b8 b9 rfl Dd _ _ _ rfl (I.alloc _) (az W.1.size 0) 1 1 [ai x] rfl rfl (qH _ _ _) (λu hu=>by simp at hu;subst hu;rfl) Um Oo (by have:=hB.size;simp;omega) ?_;intro v' w1 O a4 d1;obtain⟨g',d5,rfl⟩:=ownsRow_succ O;obtain⟨a9,d2,d3,d4,b0⟩:=hv.appended Dd I hB.size (nR _) O a4;have d8:=a9.cell;have d9:=a9.frozen)
   |gi_in)
  exact⟨d4.from _,b0,⟨⟨_,d2,by rw[mA,lA];exact d3⟩,hB.trans b0⟩⟩
 case done=>
  intro D W hD hI hK;rw[V]at hI;obtain⟨⟨v,hv,I⟩,hB⟩:=hI;have d0:=hv.cell;simp only[Exit.inBlock,Exit.then];go_wp2_with fail;have hp:=KT.put (B:=U.1.size) (.deferred none) Oo hK rfl;refine⟨Ss,Or.inl ⟨D,_,rfl,run_takeDeferred hK,v,by simp[results,Tryz.results152,go_sem],v,rfl,qC I λg hg=>?_,hB.trans (hp.bel.mono Oo)⟩⟩;obtain⟨cur,hc⟩:=qN I hg;exact hp.cel g cur _ _ hc Dd Dd
 case stop=>
  rintro D c W _ h _;exact h.elim
theorem Yw(w:World)(gf:Nat)(lb:Array Value)(ls:LI)(hl:ls.length<=1048576)(K:∀args W,(callFunc gf args).run Tryz.prog W=.ok (.enter gf args) W)
 (I:Gives Tryz.prog gf lb (λx:Int=>#[ai x]) (λ_=>Below w.1.size) (λ_ _ _=>True) (λpre x b _ _=>b=x/\pre.length<ls.length) ls w):
 Cl 126 #[.func (.func gf) #[] lb] w λe w'=>∃v,e=.returned v/\w'.ownsRow w.1.size 3 1 v ls.length (ls.map ai)/\Bl w w':=by
 have M:=ay (YA w gf lb ls hl K I);clear I;go_enter Tryz.func126,Tryz.ntmps126;go_wp2_with (first|(go_at_call 152;refine M.o.mono ?_;rintro e w' ⟨v,rfl,ho,hb⟩)|fail);go_ret;exact⟨v,rfl,ho,hb⟩
theorem UL(w0 w:World)(v:Value)(ls:LI)(ho:w.ownsRow w0.1.size 3 1 v ls.length (ls.map ai))(hb:Bl w0 w)(hl:ls.length<=1048576):
 Cl 127 #[v] w λe w'=>e=.returned (.tuple #[])/\w'.ownsRow w0.1.size 3 1 v ls.length ((ls.mergeSort λx y=>decide (x<=y)).map ai)/\Bl w0 w':=by
 rcases ho.2 with ⟨rfl,M⟩|⟨gb,cap,cur,rfl,I,K,r1,r2,O,U⟩;have:ls=[]:=List.eq_nil_of_length_eq_zero M;subst this;refine(AnyM.slices_Sort_int_none Tryz.sortA none 0 w).mono ?_;rintro e w' ⟨rfl,rfl⟩;exact⟨rfl,by simpa using ho,hb⟩;have V:Sort.Holds ai w gb 0 ls.toArray:=holds_of_block_i K (by simpa using U);refine(AnyM.slices_Sort_int Tryz.sortA gb 0 cap ls w V (qW K) Oo).mono ?_;rintro e w' ⟨rfl,nn,os,rfl⟩;exact⟨rfl,ownsRow_sorted_i Ss I K r1 r2 O,hb.grown (grownBy_sorted_i _) hb.size (λj hj=>by cases hj;exact I)⟩
theorem UM(w:World)(gf:Nat)(lb:Array Value)(ls:LI)(hl:ls.length<=1048576)(O:∀args W,(callFunc gf args).run Tryz.prog W=.ok (.enter gf args) W)
 (I:Gives Tryz.prog gf lb (λx:Int=>#[ai x]) (λ_=>Below w.1.size) (λ_ _ _=>True) (λpre x b _ _=>b=x/\pre.length<ls.length) ls w):
 Cl 103 #[.func (.func gf) #[] lb] w λe w'=>∃v,e=.returned v/\w'.ownsRow w.1.size 3 1 v ls.length ((ls.mergeSort λx y=>decide (x<=y)).map ai)/\Bl w w':=by
 have U:=ay (Yw w gf lb ls hl O I);have V:Hh (∀W v,W.ownsRow w.1.size 3 1 v ls.length (ls.map ai)->Bl w W->Cl 127 #[v] W λe w'=>e=.returned (.tuple #[])/\w'.ownsRow w.1.size 3 1 v ls.length ((ls.mergeSort λx y=>decide (x<=y)).map ai)/\Bl w w'):=ay λW v h1 h2=>UL w W v ls h1 h2 hl;clear I;go_enter Tryz.func103,Tryz.ntmps103;go_wp2_with (first|(go_at_call 126;refine U.o.mono ?_;rintro e w' ⟨v,rfl,ho,hb⟩)|(go_at_call 127;refine(V.o _ _ ho hb).mono ?_;rintro e w'' ⟨rfl,K,M⟩)|fail);go_ret;exact⟨v,rfl,K,M⟩
def MX(W:World)(k:Nat)(m:Nat->Bool):Prop:=W.1[k]?=some (.cells (XL m) 135 (0,0))
section
variable {W W':World} {k:Nat} {m:Nat->Bool}
theorem MX.below(h:MX W k m)(hb:Bl W W'):MX W' k m:=(hb.block _ (qW h)).trans h
theorem MX.cell(h:MX W k m)(hv:v<6):W.cell? (az k v)=some (.bool (m v)):=by rw[cell_of_row _ _ _ _ _ _ h];exact qEG m hv
theorem MX.free(h:MX W k m)(j:Nat):W.frozen? (az k j)=false:=by unfold World.frozen?;rw[show W.1[k]?=_ from h];simp
theorem MX.set(h:MX W k m)(hv:v<6):MX (W.setCell (az k v) (.bool true)) k (λi=>m i||decide (i=v)):=by
 unfold MX;rw[bI _ _ _ _ _ _ h];obtain rfl|rfl|rfl|rfl|rfl|rfl:v=0∨v=1∨v=2∨v=3∨v=4∨v=5:=Oo;all_goals simp[XL]
theorem MX.congr{K:Nat->Bool}(h:MX W k m)(I:∀i,i<6->K i=m i):MX W k K:=by
 have:XL K=XL m:=by unfold XL;rw[I 0 Oo,I 1 Oo,I 2 Oo,I 3 Oo,I 4 Oo,I 5 Oo]
 unfold MX;rw[this];exact h
end
theorem qD8{o:LI}{vr:LI}(hv:vr.Pairwise (·< ·)):decide (o.mergeSort (λx y=>decide (x<=y))=vr)=true↔vr.Perm o:=by
 rw[dE];constructor;intro h;rw[<-h];exact List.mergeSort_perm _ _;intro h;have I:vr.mergeSort (λx y=>decide (x<=y))=vr:=List.mergeSort_of_pairwise (hv.imp λ{a b} h=>decide_eq_true Oo);rw[<-I];exact(mergeSort_of_perm_i h.symm)
theorem qC3(tl:List TbV)(o:LI):decide (o.mergeSort (λx y=>decide (x<=y))=vrJ tl)=uF tl o:=by
 rw[Bool.eq_iff_iff,qD8 (show(vrJ tl).Pairwise (·< ·) from X9 _ _),xZ]
theorem YB(w:World)(vt vo:Value)(tl:List TbV)(o:LI)(h:ITs w vt tl)(ho:IS w vo o)(hl:tl.length<=1000)(c9:o.length<=1048576)(d1:∀t∈tl,qU t=true):
 Cl 72 #[vt,vo] w λe w'=>e=.returned (.bool (uF tl o))/\Bl w w':=by
 obtain⟨e9,ct,rfl,hc⟩:=h;have a3:Hh (∀j,j<tl.length->qV (tl.getD j qA).vs=true):=ay λj hj=>by
  have h1:=d1 (tl.getD j qA) (by rw[gD,gE hj];exact gM _);exact(qZ h1).1
 have HC:Hh (∀W,Bl w W->∀j,j<tl.length->∃b oo,e9=some (az b oo)/\TabAt W b (oo+j*3) (tl.getD j qA)):=ay λW hW j hj=>by
  rcases hc with h0|⟨b,oo,rfl,h⟩;omega;exact⟨b,oo,rfl,(h j hj).below hW⟩
 have HH:Hh (∀j,j<tl.length->∀i,qj (tl.take (j+1)) i=(qj (tl.take j) i||decide ((i:Int)∈(tl.getD j qA).vs))):=ay λj hj i=>qC2 hj i;have a5:Hh (qj (tl.take tl.length)=qj tl):=ay (by rw[tL]);have f7:Hh (∀i,qj (tl.take 0) i=false):=ay λi=>rfl;have HO:=ay ho;obtain⟨ao,co,rfl,-⟩:=ho;have KV:Hh (∀W,Bl w W->Cl 103 #[.func (.func 128) #[] #[.pointer (some (az W.1.size 0))]] (W.alloc (.cells #[.slice ao o.length co] 24)) λe w'=>∃v,e=.returned v/\w'.ownsRow (W.alloc (.cells #[.slice ao o.length co] 24)).1.size 3 1 v o.length ((o.mergeSort λx y=>decide (x<=y)).map ai)/\Below (W.alloc (.cells #[.slice ao o.length co] 24)).1.size (W.alloc (.cells #[.slice ao o.length co] 24)) w'):=ay λW hW=>
  UM _ 128 #[.pointer (some (az W.1.size 0))] o c9 (enters_of Tryz.func128 Kl rfl) (UK _ W.1.size _ o (World.alloc_heap_new W _) ((HO.o.below hW).below (qD (bJ _ _) _)) Oo)
 have KL:Hh (∀W,Cl 105 #[.agg (XL (qj tl))] W λe w'=>∃v,e=.returned v/\w'.ownsRow W.1.size 3 1 v (vrJ tl).length ((vrJ tl).map ai)/\Bl W w'):=ay λW=>qB2 W (qj tl);have KQ:Hh (∀W v1 v2,IS W v1 (o.mergeSort λx y=>decide (x<=y))->IS W v2 (vrJ tl)->Cl 102 #[v1,v2] W λe w'=>e=.returned (.bool (uF tl o))/\∃q,w'=W.drewN q):=ay λW v1 v2 h1 h2=>by
  have:=Qk W v1 v2 _ _ h1 h2 (by rw[List.length_mergeSort];omega) (bM (ZT tl) Dd);rw[qC3]at this;exact this
 obtain⟨n,hn⟩:=Ex tl.length;rw[<-hn]at hl HC a3 HH a5 ⊢;clear hn hc d1 HO;obtain⟨no,a6⟩:=Ex o.length;rw[<-a6]at KV c9 ⊢;have f8:=ay a6;clear a6;obtain⟨d2,a4⟩:=Ex (uF tl o);rw[<-a4]at KQ ⊢;clear a4;obtain⟨W1,a7⟩:=Ex (w.alloc (.cells #[.bool false,.bool false,.bool false,.bool false,.bool false,.bool false] 135));have d3:Hh (Bl w W1/\MX W1 w.1.size (qj (tl.take 0))):=ay (by rw[a7];exact⟨qD (bJ _ _) _,World.alloc_heap_new w _⟩);go_enter Tryz.func72,Tryz.ntmps72;go_wp2_with fail;rw[<-a7];clear a7;go_loopw [12] (λt wr=>∃(j:Nat),j<=n/\t=ai j/\Hh (Bl w wr/\MX wr w.1.size (qj (tl.take j)))) (λt _=>n-(intOf t).toNat);exact⟨0,nZ _,rfl,d3⟩;clear d3 f7;obtain⟨j,h6,rfl,M⟩:=hrel;by_cases a8:j<n
 ·have i1:(j:Int)<(n:Int):=Oo;obtain⟨b,oo,ea,v0,v1,v2,d4,d5,d6,hI⟩:=HC.o w (bJ _ _) j a8;subst ea;have c0:=xL M.o.1 d4;have c1:=xL M.o.1 d5;have c2:=xL M.o.1 d6;clear d4 d5 d6;have O:=a3.o j a8;have f9:=ay (HH.o j a8);obtain⟨W3,U⟩:=Ex (wr.alloc (.cells #[v0,v1,v2] 61));have a9:Bl wr W3:=by rw[U];exact(bJ _ _).alloc (nR _) _
  have b0:Hh (TX W3 wr.1.size v0 v1 v2):=ay (by rw[U];exact TX.made _ _ _ _);have d7:=ay (bt M.o.1 a9);have b7:=ay (M.o.2.below a9);have h7:Hh (w.1.size<wr.1.size):=ay (qW M.o.2);have g4:=zK O;have d8:Hh (∀i,i<(tl.getD j qA).vs.length->∃v:Nat,(tl.getD j qA).vs.getD i 0=(v:Int)/\v<6):=ay λi hi=>by
   have:=QA O i hi;exact⟨((tl.getD j qA).vs.getD i 0).toNat,Oo,Oo⟩
  have d9:=hI.vs;obtain⟨a0,k0,e0,-⟩:=hI.vs;obtain⟨a1,k1,e1,-⟩:=hI.rows;obtain⟨a2,k2,e2,-⟩:=hI.ws;subst e0 e1 e2;have e3:Hh (∀i,i<(tl.getD j qA).vs.length->(tl.getD j qA).vs.take (i+1)=(tl.getD j qA).vs.take i++[(tl.getD j qA).vs.getD i 0]):=ay λi hi=>qy hi;have e4:Hh ((tl.getD j qA).vs.take (tl.getD j qA).vs.length=(tl.getD j qA).vs):=ay (tL);generalize tl.getD j qA=tb at *;have b8:Hh (∀W,Bl w W->∀i,i<tb.vs.length->∃b o,a0=some (az b o)/\W.cell? (az b (o+i))=some (ai (tb.vs.getD i 0))):=ay λW hW i hi=>by
   obtain⟨a,c,e,hc⟩:=d9.below hW;cases e
   rcases hc with h0|⟨b,o,rfl,h⟩;omega;exact⟨b,o,rfl,h i hi⟩
  generalize tb.rows.length=nr at *;generalize tb.ws.length=n2 at *;clear hI d9 O a9 HC a3 M;obtain⟨nv,e5⟩:=Ex tb.vs.length;rw[<-e5]at g4 d8 e3 e4 b8 U b0 c0;clear e5;have d0:=b0.o.c0;go_upto_region 5 with fail;rw[<-U];clear U c0 c1 c2;have h8:w.1.size<W3.1.size:=qW b7.o;have K:Hh (MX W3 w.1.size (λq=>qj (tl.take j) q||decide ((q:Int)∈tb.vs.take 0))):=ay (b7.o.congr λi _=>Ss);go_wp2_with fail;go_loopw [19] (λt e6=>∃(i:Nat),i<=nv/\t=ai i/\Hh (Bl w e6/\MX e6 w.1.size (λq=>qj (tl.take j) q||decide ((q:Int)∈tb.vs.take i)))) (λt _=>nv-(intOf t).toNat);exact⟨0,nZ _,rfl,ay ⟨d7.o,K.o⟩⟩;obtain⟨i,h9,rfl,I⟩:=hrel;by_cases V:i<nv
  ·have i2:(i:Int)<(nv:Int):=Oo;obtain⟨b2,o2,g5,e1⟩:=b8.o _ I.o.1 i V;subst g5;obtain⟨v,ev,e7⟩:=d8.o i V;have b9:=ay (e3.o i V);rw[ev]at b9 e1;have m1:((v:Nat):Int)<6:=Oo;have m0:¬((v:Nat):Int)<0:=Oo;have m2:(0:Int)<=(v:Int):=Oo;have q1:=I.o.2.cell e7;have q2:=I.o.2.free v;have HN:Hh (∀W:World,W=(wr:World)->Bl w (W.setCell (az w.1.size v) (.bool true))/\MX (W.setCell (az w.1.size v) (.bool true)) w.1.size (λq=>qj (tl.take j) q||decide ((q:Int)∈tb.vs.take (i+1)))):=ay λW hW=>by
    subst hW;refine⟨I.o.1.setCell (by show _<=w.1.size;omega) _,(I.o.2.set e7).congr λq _=>?_⟩;rw[b9.o];simp only[List.mem_append,List.mem_singleton,Bool.decide_or,Bool.or_assoc];congr 2;simp only[decide_eq_decide];omega
   clear I b9 ev;go_wp2_with fail;go_roundw;exact⟨i+1,Oo,Gg,ay (HN.o wr rfl)⟩;exact Im
  obtain rfl:i=nv:=Oo;have i2:¬((i:Int)<(i:Int)):=Oo;have HN:Hh (Bl w wr/\MX wr w.1.size (qj (tl.take (j+1)))):=ay ⟨I.o.1,I.o.2.congr λq _=>by rw[e4.o];exact f9.o q⟩;clear I K d7 b7 b0 b8;go_wp2_with fail;go_roundw;exact⟨j+1,Oo,Gg,HN⟩;exact Im
 obtain rfl:j=n:=Oo;have i1:¬((j:Int)<(j:Int)):=Oo;rw[a5.o]at M;have g6:=ay M.o.2;have HB:=ay M.o.1;clear M HH a5 a3 HC;have c7:Hh (∀W,Bl wr W->W.cell? (az w.1.size 0)=some (.bool (qj tl 0))/\W.cell? (az w.1.size 1)=some (.bool (qj tl 1))/\W.cell? (az w.1.size 2)=some (.bool (qj tl 2))/\W.cell? (az w.1.size 3)=some (.bool (qj tl 3))/\W.cell? (az w.1.size 4)=some (.bool (qj tl 4))/\W.cell? (az w.1.size 5)=some (.bool (qj tl 5))):=ay λW hW=>by
  have h:=g6.o.below hW;exact⟨h.cell (v:=0) Oo,h.cell (v:=1) Oo,h.cell (v:=2) Oo,h.cell (v:=3) Oo,h.cell (v:=4) Oo,h.cell (v:=5) Oo⟩
 have g7:Hh (∀W,Cl 105 #[.agg #[.bool (qj tl 0),.bool (qj tl 1),.bool (qj tl 2),.bool (qj tl 3),.bool (qj tl 4),.bool (qj tl 5)]] W λe w'=>∃v,e=.returned v/\w'.ownsRow W.1.size 3 1 v (vrJ tl).length ((vrJ tl).map ai)/\Bl W w'):=KL;have c8:Bl wr wr.drew:=(bJ _ _).drew;have g8:=ay (KV.o wr.drew (bt HB.o c8));obtain⟨s0,s1,s2,s3,s4,s5⟩:=c7.o wr.drew c8;have b1:Bl wr (wr.drew.alloc (.cells #[.slice ao no co] 24)):=qD c8 _;obtain⟨t0,t1,t2,t3,t4,t5⟩:=c7.o (wr.alloc (.cells #[.slice ao no co] 24)) (qD (bJ _ _) _);clear KL KV;generalize qj tl 0=m0 at *;generalize qj tl 1=m1 at *;generalize qj tl 2=m2 at *;generalize qj tl 3=m3 at *;generalize qj tl 4=m4 at *;generalize qj tl 5=m5 at *;go_upto_region 11 with fail;go_region_law (first
  |(go_simp;go_at_call 104;refine(UJ _ ao no co).mono ?_;rintro e w2 ⟨rfl,rfl⟩)
  |(go_simp;go_at_call 103;refine g8.o.mono ?_;rintro e w3 ⟨v3,rfl,g9,h3⟩;have b3:=bt b1 h3;obtain⟨r0,r1,r2,r3,r4,r5⟩:=c7.o w3 b3)
  |(go_simp;go_at_call 105;refine(g7.o w3).mono ?_;rintro e w4 ⟨v4,rfl,h4,e8⟩;have h5:IS w4 v3 (o.mergeSort λx y=>decide (x<=y)):=qS (by rw[List.length_mergeSort,<-f8.o];exact qB g9 e8);have b4:=bt b3 e8)
  |(go_simp;go_at_call 102;refine(KQ.o w4 v3 v4 h5 (qS h4)).mono ?_;rintro e w5 ⟨rfl,q5,rfl⟩)
  |fail)
 all_goals go_wp2_with fail
 all_goals go_ret
 all_goals exact⟨rfl,below_drewN (bt HB.o b4) _⟩
attribute [local go_sem] Oper.semAt_some
theorem kh(w:World)(vt vo:Value)(tl:List TbV)(o:LI)(h:ITs w vt tl)(ho:IS w vo o)(hl:tl.length<=1048576)(m1:o.length<=1048576)(hs:∀t∈tl,TvS t):
 Cl 51 #[vt,vo] w λe w'=>∃v us,e=.returned (.tuple #[v,ai (qw tl o)])/\RQ w' w.1.size v us (qu tl o)/\Bl w w':=by
 have HT:=ay h;have HO:=ay ho;have KA:Hh (∀W,Bl w W->Cl 53 #[vt] W λe w'=>e=.returned (.bool (tl.all qU))/\Bl W w'):=ay λW hW=>jk W vt tl (h.below hW) Oo hs;have KO:Hh (∀W,Bl w W->tl.length<=8->tl.all qU=true->Cl 72 #[vt,vo] W λe w'=>e=.returned (.bool (uF tl o))/\Bl W w'):=ay λW hW h8 ha=>YB W vt vo tl o (h.below hW) (ho.below hW) Oo m1 (λt ht=>aT.1 ha t ht);have O:Hh (okJ tl o=(decide (tl.length<=8)&&tl.all qU&&uF tl o)):=ay rfl;obtain⟨a6,ct,o3,-⟩:=h;obtain⟨ao,co,o4,-⟩:=ho;subst o3 o4;have k0:Hh (okJ tl o=false->qu tl o=[]/\qw tl o=-1):=ay qFP;obtain⟨RJ,k3⟩:=Ex (qu tl o);obtain⟨VJ,k4⟩:=Ex (qw tl o);have k5:=ay k3;have k7:=ay k4;rw[<-k3,<-k4]at k0 ⊢;clear k3 k4 hs;obtain⟨n,hn⟩:=Ex tl.length;rw[<-hn]at hl KA KO O ⊢;have m2:=ay hn;clear hn;obtain⟨no,k8⟩:=Ex o.length;rw[<-k8]at m1 KO ⊢;have d0:=ay k8;clear k8;rw[<-m2.o]at HT;obtain⟨W1,b7⟩:=Ex ((((w.alloc (.cells #[.slice ao no co] 24)).alloc (.cells #[] 24)).alloc (.cells #[.slice (some (az (w.1.size+1) 0)) 0 0] 23)).alloc (.cells #[ai 0] 3));have d7:Bl w W1:=by rw[b7];exact qD (qD (qD (qD (bJ _ _) _) _) _) _
 have o5:Hh (W1.1.size=w.1.size+4):=ay (by rw[b7];simp);have a1:∀(W:World) (o:Obj) (k:Nat),k=W.1.size->(W.alloc o).1[k]?=some o:=λW o k hk=>by rw[hk];exact World.alloc_heap_new W o
 have a2:∀(W:World) (o o':Obj) (k:Nat),W.1[k]?=some o->(W.alloc o').1[k]?=some o:=λW o o' k hk=>(Below.heap_alloc _ _ _ (qW hk)).trans hk;have e5:Hh (Boxed W1 w.1.size 24 (.slice ao no co)):=ay (by rw[b7];exact a2 _ _ _ _ (a2 _ _ _ _ (a2 _ _ _ _ (a1 _ _ _ rfl))));have e6:Hh (Boxed W1 (w.1.size+2) 23 (.slice (some (az (w.1.size+1) 0)) 0 0)):=ay (by rw[b7];exact a2 _ _ _ _ (a1 _ _ _ Ss));have k9:Hh (Boxed W1 (w.1.size+3) 3 (ai 0)):=ay (by rw[b7];exact a1 _ _ _ Ss);have l0:Hh (RQ W1 w.1.size (.slice (some (az (w.1.size+1) 0)) 0 0) [] []):=ay (by
  refine⟨?_,rfl,λi hi=>by simp at hi,λi j _ hj=>by simp at hj⟩;have M:=oM (w.alloc (.cells #[.slice ao no co] 24)) (e:=24) (size:=1) (base:=w.1.size) #[] 0 Ss Dd rfl;rw[World.size_alloc]at M;rw[b7];exact qB M (qD (qD (bJ _ _) _) _))
 clear a1 a2;refine(callsIn_wide (n:=0)).1 (callsIn_of_wp_marks Tryz.func51 rfl trivial ?_ rfl);simp only[Tryz.ntmps51,List.size_toArray,List.length_cons,List.length_nil,Nat.reduceAdd,Nat.reduceSub,Array.replicate_succ,Array.replicate_zero,List.push_toArray,List.append_toArray,List.nil_append,List.cons_append];refine wpIn_mono (Q:=npQ (bodyPostM Fence.wide 0 Tryz.prog Tryz.f51 (λe w'=>∃v us,e=.returned (.tuple #[v,ai VJ])/\RQ w' w.1.size v us RJ/\Bl w w'))) ?_ npQ.imp;refine(wpIn_wide (n:=0)).2 ?_;go_upto_region 2 with fail;rw[<-b7];clear b7;have b8:Hh (∀W,Bl W1 W->W.cell? (az w.1.size 0)=some (.slice ao no co)/\W.cell? (az (w.1.size+1+1) 0)=some (.slice (some (az (w.1.size+1) 0)) 0 0)):=ay λW hW=>⟨Boxed.cell (t:=24) ((hW.block _ e5.o.lt).trans e5.o),Boxed.cell (t:=23) ((hW.block _ e6.o.lt).trans e6.o)⟩;have i0:Hh (∀W,Bl W1 W->okJ tl o=false->∃v us,Ending.returned (.tuple #[.slice (some (az (w.1.size+1) 0)) 0 0,ai (-1)])=.returned (.tuple #[v,ai VJ])/\RQ W w.1.size v us RJ/\Bl w W):=ay λW hW hy=>by
  obtain⟨e1,e2⟩:=k0.o hy;rw[e1,e2];exact⟨_,[],rfl,l0.o.below hW,bt d7 hW⟩
 have d8:=ay (KA.o W1 d7);by_cases h8:n<=8
 ·have q8:¬((8:Int)<(n:Int)):=Oo;rw[decide_eq_true h8,Bool.true_and]at O;have i3:Hh (tl.all qU=true->∀W,Bl W1 W->Cl 72 #[.slice a6 n ct,.slice ao no co] W λe w'=>e=.returned (.bool (uF tl o))/\Bl W w'):=ay λM W hW=>KO.o W (bt d7 hW) h8 M;cases hA:tl.all qU with
  |false=>
   rw[hA]at d8 O;have l1:Hh (okJ tl o=false):=ay O.o;clear O KO i3 KA hA;go_wp2_with (first|(go_at_call 53;refine d8.o.mono ?_;rintro e w2 ⟨rfl,a3⟩;obtain⟨k1,k2⟩:=b8.o w2 a3)|fail);exact⟨_,by simp[results,Tryz.results51,go_sem],i0.o _ a3 l1.o⟩
  |true=>
   rw[hA]at d8 O;rw[Bool.true_and]at O;have e7:=ay (i3.o hA);have e8:=ay hA;cases hO:uF tl o with
   |false=>
    rw[hO]at e7 O;clear KO i3 KA hA hO e8;go_wp2_with (first|(go_at_call 53;refine d8.o.mono ?_;rintro e w2 ⟨rfl,a3⟩;obtain⟨k1,k2⟩:=b8.o w2 a3)|(go_at_call 72;refine(e7.o w2 a3).mono ?_;rintro e w3 ⟨rfl,d4⟩;have d1:=bt a3 d4;obtain⟨r1,r2⟩:=b8.o w3 d1)|fail);exact⟨_,by simp[results,Tryz.results51,go_sem],i0.o _ d1 O.o⟩
   |true=>
    rw[hO]at e7 O;clear KO i3 KA hA k0 i0;go_upto_region 4 with (first|(go_at_call 53;refine d8.o.mono ?_;rintro e w2 ⟨rfl,a3⟩;obtain⟨k1,k2⟩:=b8.o w2 a3)|(go_at_call 72;refine(e7.o w2 a3).mono ?_;rintro e w3 ⟨rfl,d4⟩;have d1:=bt a3 d4;obtain⟨r1,r2⟩:=b8.o w3 d1)|fail);obtain⟨W4,i4⟩:=Ex (w3.alloc (.cells #[ai 0,ai 0,ai 0,ai 0,ai 0,ai 0,ai 0] 106));have m3:Bl w3 W4:=by rw[i4];exact qD (bJ _ _) _
    have i5:W4.1[w3.1.size]?=some (.cells #[ai 0,ai 0,ai 0,ai 0,ai 0,ai 0,ai 0] 106 (0,0)):=by rw[i4];exact World.alloc_heap_new w3 _
    have m4:=bt d1 m3;obtain⟨q1,q2⟩:=b8.o W4 m4;obtain⟨Wp,e9⟩:=Ex ((W4.alloc (.cells #[.slice a6 n ct] 32)).alloc (.cells #[.slice ao no co] 24));go_upto_region 5 with fail;rw[<-i4];clear i4;go_wp2_with (first|(go_at_call 73;refine(Yu _ _ _ _ _ _ _).mono ?_;rintro e w5 ⟨rfl,rfl⟩)|fail);rw[<-e9];have q5:W1.1.size<=w3.1.size:=d1.size;have p9:=o5.o;have i6:Bl W4 Wp:=by rw[e9];exact qD (qD (bJ _ _) _) _
    have a8:=bt m4 i6;have m5:Wp.1[W4.1.size]?=some (.cells #[.slice a6 n ct] 32 (0,0)):=by rw[e9];exact(Below.heap_alloc _ _ _ Ss).trans (World.alloc_heap_new W4 _)
    have m6:Wp.1[W4.1.size+1]?=some (.cells #[.slice ao no co] 24 (0,0)):=by
     rw[e9];have:=World.alloc_heap_new (W4.alloc (.cells #[.slice a6 n ct] 32)) (.cells #[.slice ao no co] 24);rw[World.size_alloc]at this;exact this
    have m7:JS w.1.size w.1.size (w.1.size+1+1) (w.1.size+1+1+1) w3.1.size (.slice ao no co) (qi []) ((xQ []:Nat):Int) (yb no []) (.slice (some (az (w.1.size+1) 0)) 0 0) [] w Wp:=by
     refine⟨(i6.block _ (qW i5)).trans i5,(a8.block _ e6.o.lt).trans e6.o,?_,(a8.block _ k9.o.lt).trans k9.o,(a8.block _ e5.o.lt).trans e5.o,bt d7 a8,⟨_,_,rfl⟩,λi hi=>by simp[yb]at hi,Oo⟩;have M:=l0.o.below a8;refine⟨?_,rfl,λi hi=>by simp[yb]at hi,λi j _ hj=>by simp[yb]at hj⟩;exact⟨M.own.1,M.own.2.imp id λ⟨g,cap,cur,e1,e2,e3⟩=>⟨g,cap,cur,e1,by cases e1;omega,e3⟩⟩
    have q0:w.1.size+4<=Wp.1.size:=by have:=a8.size;omega
    have l2:w3.1.size<Wp.1.size:=by have M:=qW i5;have V:=i6.size;omega
    have j0:Qq tl o:=ko hO;have o6:no<=6:=by have M:=(xZ.1 hO).length_eq;have V:=ZT tl;have h3:=d0.o;omega
    have i7:Gives Tryz.prog 106 #[.pointer (some (az W4.1.size 0)),.pointer (some (az (W4.1.size+1) 0))] (λvp=>#[vp]) (λl=>KpS (jx0 w3.1.size (w.1.size+1+1) (w.1.size+1+1+1)) λk=>k=l) (λl=>KpS (jx0 w3.1.size (w.1.size+1+1) (w.1.size+1+1+1)) λk=>k=l) (qDt no (zJ tl o)) (zJ tl o) Wp:=by
     rw[d0.o];refine X6 _ _ _ Wp _ _ (.slice a6 n ct) (.slice ao o.length co) tl o m5 (by rw[<-d0.o];exact m6) (HT.o.below (bt d7 a8)) (HO.o.below (bt d7 a8)) (λt ht=>aT.1 e8.o t ht) j0 (by rw[<-m2.o];omega) (by rw[<-d0.o];omega) l2 Oo Oo m7.ty
    have l3:Hh ((∀i,qi (zJ tl o) i<=10000)->RJ=yb no (zJ tl o)/\VJ=(xQ (zJ tl o):Int)):=ay λM=>by rw[k5.o,k7.o,d0.o];exact qD2 O.o M
    have l4:Hh (∀i,i<=no->10000<qi (zJ tl o) i->RJ=[]/\VJ=-1):=ay λi M V=>by rw[k5.o,k7.o];exact qD3 O.o (by rw[<-d0.o];exact M) V
    have o7:Hh (∀q∈zJ tl o,q.length<=no):=ay λq hq=>by rw[d0.o];exact Je q hq
    generalize zJ tl o=tot at *;clear m5 m6 j0 e9 i5 HT HO k5 k7 O e8 d8 e7 b8 l0 a3 d1 d4 m3 q1 q2 r1 r2 k1 k2 hO e5 e6 k9 a8 i6;obtain⟨II,b9⟩:∃II:LL->World->Prop,II=λps W=>∃vr us,JS w.1.size w.1.size (w.1.size+1+1) (w.1.size+1+1+1) w3.1.size (.slice ao no co) (qi ps) ((xQ ps:Nat):Int) (yb no ps) vr us w W/\∀i,qi ps i<=10000:=⟨_,rfl⟩;obtain⟨IX,d9⟩:∃IX:Code->World->Prop,IX=λc W=>c=.exit 0/\(∃i,i<=no/\10000<qi tot i)/\∃vr cc,JS w.1.size w.1.size (w.1.size+1+1) (w.1.size+1+1+1) w3.1.size (.slice ao no co) cc (-1) [] vr [] w W:=⟨_,rfl⟩;have f7:w.1.size<=Wp.1.size:=Oo;refine(wpIn_wide (n:=0)).1 ?_;refine jh (α:=LI) (β:=Value) (gf:=106) (lb:=#[.pointer (some (az W4.1.size 0)),.pointer (some (az (W4.1.size+1) 0))]) rfl (enters_of Tryz.func106 Kl rfl) i7 (λ_=>rfl)
     (λM V=>KpS.trans M V) (λl W o o' M V h3=>KpS.put rfl V h3 (by show w.1.size+1+1≠l;omega)) (λM V h3=>(KpS.trans M V).trans h3)
     II IX
     (λs X Y hX hk=>by rw[b9]at hX ⊢;obtain⟨vr,us,M,V⟩:=hX;exact⟨vr,us,M.kt hk f7,V⟩)
     (λc X Y hX hk=>by rw[d9]at hX ⊢;obtain⟨h0,M,vr,cc,V⟩:=hX;exact⟨h0,M,vr,cc,V.kt hk f7⟩)
     (by rw[b9];exact⟨_,_,m7,λi=>by show(0:Nat)<=_;omega⟩)
     (λl pre x b a' W=>∃X vr us,JS w.1.size w.1.size (w.1.size+1+1) (w.1.size+1+1+1) w3.1.size (.slice ao no co) (qi pre) ((xQ pre:Nat):Int) (yb no pre) vr us w X/\(∀i,qi pre i<=10000)/\KT Wp.1.size X W/\W.ownsRow X.1.size 3 1 b x.length (x.map ai)/\x.length<=no/\(∃g c,b=.slice (some (az g 0)) x.length c)/\pre++[x] <+:tot/\a'={ tmps:=#[.slice a6 n ct,.slice ao no co,undef,.pointer (some (az w.1.size 0)),sn,ai 0,.pointer (some (az (w.1.size+1+1) 0)),.pointer (some (az (w.1.size+1+1+1) 0)),.pointer (some (az w3.1.size 0)),b,undef,.slice (some (az (w.1.size+1) 0)) 0 0,.slice a6 n ct,ai n,.bool false,.bool false,.slice a6 n ct,.bool true,.bool false,.bool false,.bool false,.slice a6 n ct,.slice ao no co,.bool true,.bool false,.bool false,undef,.slice a6 n ct,.slice ao no co,.func (.func 106) #[] #[.pointer (some (az W4.1.size 0)),.pointer (some (az (W4.1.size+1) 0))],b,undef,undef,undef,undef,undef,undef,undef,undef,undef,undef,undef,undef,undef,undef,undef,undef,undef,undef,undef,undef,undef,undef,undef,undef,undef,undef],defers:=[] })
     (λl pre x b a' W o o' ⟨X,vr,us,M,V,h3,h4,h5⟩ i8 h6 h7=>⟨X,vr,us,M,V,h3.trans (KT.put (B:=Wp.1.size) o' i8 h6 h7),qC h4 λg hg=>by
      obtain⟨cur,hc⟩:=qN h4 hg;exact(KT.put (B:=Wp.1.size) o' i8 h6 h7).cel g cur _ _ hc Dd Dd,h5⟩)
     ?assign ?body ?done ?stop
    case assign=>
     rintro l pre x b X Y K i8 hI hk ⟨ho,l5,⟨g,c,rfl⟩,c7⟩ ⟨rr,o8⟩ hK;rw[b9]at hI;obtain⟨vr,us,M,V⟩:=hI;gi_wp2
     exact hK _ _ (KeepsFrom.refl _ _) (KpS.refl _ _ _) ⟨X,vr,us,M,V,hk,ho,l5,⟨g,c,rfl⟩,c7,rfl⟩
    case body=>
     rintro l pre x b a' W i8 ⟨rr,o8⟩ ⟨X,vr,us,jX,f8,hk,i9,l5,⟨g,c,rfl⟩,c7,rfl⟩;have jW:=jX.kt hk f7;have m8:x.length<7:=Oo;have o9:X.1.size<=g:=(i9.lt g rfl).1;have p6:=jX.vb.lt;have j1:g≠w.1.size+1+1+1:=Oo;obtain⟨iS,hj,m9,n4,n5⟩:=info_parts Tryz.infoIS;have p7:=jX.ob.lt;have f9:=jW.held m8 (qi pre x.length+1);rw[show((qi pre x.length+1:Nat):Int)=(qi pre x.length:Int)+1 by omega]at f9;obtain⟨a7,ka⟩:=f9;have q6:=f8 x.length;have ja:JS w.1.size w.1.size (w.1.size+1+1) (w.1.size+1+1+1) w3.1.size (.slice ao no co) (qi (pre++[x])) ((xQ pre:Nat):Int) (yb no pre) vr us w (W.setCell (az w3.1.size x.length) (ai ((qi pre x.length:Int)+1))):=⟨a7.hb.congr λi _=>by
      rw[Qn];by_cases e:i=x.length;rw[if_pos e.symm,if_pos e,e];rw[if_neg (λh=>e h.symm),if_neg e];rfl,a7.rb,a7.rq,a7.vb,a7.ob,a7.bel,a7.sh,a7.ap,a7.low⟩
     have j3:W.ownsRow (w.1.size+1) 3 1 (.slice (some (az g 0)) x.length c) x.length (x.map ai):=qF i9 Oo;have n6:g≠w3.1.size:=λe=>own_ne i9 ⟨_,jW.hb⟩ Dd (by rw[e];rfl);have a4:Hh (∀W' d2 l6,qi pre x.length+1<=10000->JS w.1.size w.1.size (w.1.size+1+1) (w.1.size+1+1+1) w3.1.size (.slice ao no co) (qi (pre++[x])) ((xQ (pre++[x]):Nat):Int) (yb no (pre++[x])) d2 l6 w W'->KpS (jx0 w3.1.size (w.1.size+1+1) (w.1.size+1+1+1)) (λ_=>False) W W'->KeepsFrom Wp.1.size W W'/\KpS (jx0 w3.1.size (w.1.size+1+1) (w.1.size+1+1+1)) (λk=>k=l) W W'/\II (pre++[x]) W'):=ay λW' d2 l6 M V h3=>by
      refine⟨h3.keepsF jW.ty l2 Oo Oo,h3.sub λ_ h=>h.elim,?_⟩;rw[b9];refine⟨d2,l6,V,λi=>?_⟩;rw[Qn];by_cases e:x.length=i;rw[if_pos e,<-e];exact M;rw[if_neg e];exact f8 i
     have a9:Hh (∀W' d2 cc,10000<qi pre x.length+1->JS w.1.size w.1.size (w.1.size+1+1) (w.1.size+1+1+1) w3.1.size (.slice ao no co) cc (-1) [] d2 [] w W'->KpS (jx0 w3.1.size (w.1.size+1+1) (w.1.size+1+1+1)) (λ_=>False) W W'->KeepsFrom Wp.1.size W W'/\KpS (jx0 w3.1.size (w.1.size+1+1) (w.1.size+1+1+1)) (λk=>k=l) W W'/\IX (.exit 0) W'):=ay λW' d2 cc M V h3=>by
      refine⟨h3.keepsF jW.ty l2 Oo Oo,h3.sub λ_ h=>h.elim,?_⟩;rw[d9];refine⟨rfl,⟨x.length,l5,?_⟩,d2,cc,V⟩;have h4:=qD0 c7 x.length;rw[Qn,if_pos rfl]at h4;omega
     have e0:Hh ((W.setCell (az w3.1.size x.length) (ai ((qi pre x.length:Int)+1))).ownsRow (w.1.size+1) 3 1 (.slice (some (az g 0)) x.length c) x.length (x.map ai)):=ay (qC j3 λq hq=>bD _ _ _ _ λe=>by
      have e2:q=w3.1.size:=e;have:g=q:=by simpa[Value.ownBlock]using hq
      exact n6 (this.trans e2))
     have l7:Hh (∀i,i<(yb no pre).length->∀q,(us.getD i undef).ownBlock=some q->(Value.slice (some (az g 0)) x.length c).ownBlock≠some q):=ay λi hi q hq e=>by
      have M:=((jX.rq.each i hi).lt q hq).2;have:g=q:=by simpa[Value.ownBlock]using e
      omega
     have q7:xQ pre<=60000:=by
      have M:=qFJ (k:=no) (λq hq=>o7.o q (c7.subset (List.mem_append_left _ hq))) f8;have V:no*10000<=6*10000:=Nat.mul_le_mul_right _ o6;omega
     have g4:=ay (qCs pre x);have g5:=ay (qCt no pre x);have q9:(yb no pre).length<=10000:=by rw[qDz];exact f8 no
     have I:=ay ja;have c8:=ay ka;have c1:=jW.hb.cell m8;have f1:=jW.hb.free x.length;have n1:w.1.size+1+1≠w3.1.size:=xu jW.rb jW.hb Dd;have n2:w.1.size+1+1+1≠w3.1.size:=xu jW.vb jW.hb Dd;have n3:w.1.size≠w3.1.size:=xu jW.ob jW.hb Dd;have x7:(x.length:Int)<7:=Oo;clear ja a7 ka i9 j3 o9 p6 p7 jX f8 hk c7 b9 d9 i7;generalize xQ pre=vn at *;generalize qi pre x.length=cn at *;have e4:(W.setCell (az w3.1.size x.length) (ai ((cn:Int)+1))).1.size=W.1.size:=by simp[World.setCell]
     have r1:=I.o.rb.cell;have r2:=I.o.rb.frozen;have v1:=I.o.vb.cell;have v2:=I.o.vb.frozen;have o1:=I.o.ob.cell;have r3:w.1.size<W.1.size:=jW.ob.lt;have p1:=jW.rb.cell;have p2:=jW.vb.cell;have p3:=jW.ob.cell;have p4:=jW.rb.frozen;have p5:=jW.vb.frozen;by_cases n7:10000<cn+1
     ·have b1:(10000:Int)<(cn:Int)+1:=Oo;obtain⟨jr,kr⟩:=I.o.reset;rw[e4]at jr kr;obtain⟨jv,kv⟩:=jr.vis (-1);have HX:=ay (a9.o _ _ _ n7 jv ((c8.o.trans kr).trans kv));have q1:=(I.o.rb.alloc (.cells #[] 24)).cell;have q2:=(I.o.rb.alloc (.cells #[] 24)).frozen;have q3:=jr.vb.cell;have q4:=jr.vb.frozen;clear jr kr jv kv a4 a9 e0 l7 g4 g5 I c8;gi_wp2
      exact HX.o
     have b1:¬((10000:Int)<(cn:Int)+1):=Oo;have n8:Hh (g≠w.1.size+1+1+1):=ay j1;have j4:Hh ((Value.slice (some (az g 0)) x.length c).ownBlock≠some (w.1.size+1+1+1)):=ay λe=>j1 (by simpa[Value.ownBlock]using e);by_cases d5:0<x.length
     ·have i1:(0:Int)<(x.length:Int):=Oo;by_cases c9:x.length=no
      ·subst c9;obtain⟨jv,kv⟩:=I.o.vis ((vn:Int)+1);have d6:((W.setCell (az w3.1.size x.length) (ai ((cn:Int)+1))).setCell (az (w.1.size+1+1+1) 0) (ai ((vn:Int)+1))).1.size=W.1.size:=by simp[World.setCell]
       have j5:=ay (qC e0.o λq hq=>bD (W.setCell (az w3.1.size x.length) (ai ((cn:Int)+1))) (az (w.1.size+1+1+1) 0) (ai ((vn:Int)+1)) _ λe=>n8.o (by have:g=q:=(by simpa[Value.ownBlock]using hq);exact this.trans e));have t1:=jv.rb.cell;have t2:=jv.rb.frozen;have t3:=jv.ob.cell;have a5:((xQ (pre++[x]):Nat):Int)=(vn:Int)+1:=by rw[g4.o,if_pos d5];omega
       have U:=g5.o;rw[if_pos rfl]at U;have g7:=ay jv;have l8:=ay (c8.o.trans kv);have g8:=ay d6;have l9:=ay a5;have g9:=ay U;clear a5 U e4 d6 jv kv;gi_wp2_with (first
        |(gi_at_builtin;refine vM _ rfl _ _ 23 rfl (w.1.size+1) 24 iS sn 1 24 Tryz.underlying23 hj m9 n4 n5 rfl Dd vr _ us rfl (g7.o.rq.own.alloc _) (az W.1.size 0) 1 1 [.slice (some (az g 0)) x.length c] rfl rfl (by rw[<-g8.o];exact qH _ _ _) (λu hu=>by simp at hu;subst hu;rfl) Dd Um Oo (by rw[World.size_alloc,g8.o];omega) ?_;intro g6 p8 w6 d3 b0 h9;obtain⟨r6,j6,k6⟩:=g7.o.push j5.o l7.o j4.o d3 b0 h9;have u1:=r6.cell;have u2:=r6.frozen)
        |gi_in)
       exact a4.o _ _ _ Oo (by rw[l9.o,g9.o];exact j6) (l8.o.trans k6)
      have i2:¬((x.length:Int)=(no:Int)):=Oo;obtain⟨jv,kv⟩:=I.o.vis ((vn:Int)+1);have d6:((W.setCell (az w3.1.size x.length) (ai ((cn:Int)+1))).setCell (az (w.1.size+1+1+1) 0) (ai ((vn:Int)+1))).1.size=W.1.size:=by simp[World.setCell]
      have j5:=ay (qC e0.o λq hq=>bD (W.setCell (az w3.1.size x.length) (ai ((cn:Int)+1))) (az (w.1.size+1+1+1) 0) (ai ((vn:Int)+1)) _ λe=>n8.o (by have:g=q:=(by simpa[Value.ownBlock]using hq);exact this.trans e));have t1:=jv.rb.cell;have t2:=jv.rb.frozen;have t3:=jv.ob.cell;have a5:((xQ (pre++[x]):Nat):Int)=(vn:Int)+1:=by rw[g4.o,if_pos d5];omega
      have U:=g5.o;rw[if_neg c9,List.append_nil]at U;have HF:=ay (a4.o _ _ _ Oo (by rw[a5,U];exact jv) (c8.o.trans kv));clear a5 U e4 d6 jv kv a4 a9 I c8 e0;gi_wp2
      exact HF.o
     have i1:¬((0:Int)<(x.length:Int)):=Oo;by_cases c9:x.length=no
     ·subst c9;have t1:=I.o.rb.cell;have t2:=I.o.rb.frozen;have t3:=I.o.ob.cell;have a5:((xQ (pre++[x]):Nat):Int)=(vn:Int):=by rw[g4.o,if_neg d5];omega
      have U:=g5.o;rw[if_pos rfl]at U;have g7:=ay I.o;have l8:=ay c8.o;have g8:=ay e4;have l9:=ay a5;have g9:=ay U;clear a5 U e4;gi_wp2_with (first
       |(gi_at_builtin;refine vM _ rfl _ _ 23 rfl (w.1.size+1) 24 iS sn 1 24 Tryz.underlying23 hj m9 n4 n5 rfl Dd vr _ us rfl (g7.o.rq.own.alloc _) (az W.1.size 0) 1 1 [.slice (some (az g 0)) x.length c] rfl rfl (by rw[<-g8.o];exact qH _ _ _) (λu hu=>by simp at hu;subst hu;rfl) Dd Um Oo (by rw[World.size_alloc,g8.o];omega) ?_;intro g6 p8 w6 d3 b0 h9;obtain⟨r6,j6,k6⟩:=g7.o.push e0.o l7.o j4.o d3 b0 h9;have u1:=r6.cell;have u2:=r6.frozen)
       |gi_in)
      exact a4.o _ _ _ Oo (by rw[l9.o,g9.o];exact j6) (l8.o.trans k6)
     have i2:¬((x.length:Int)=(no:Int)):=Oo;have t1:=I.o.rb.cell;have t2:=I.o.rb.frozen;have t3:=I.o.ob.cell;have a5:((xQ (pre++[x]):Nat):Int)=(vn:Int):=by rw[g4.o,if_neg d5];omega
     have U:=g5.o;rw[if_neg c9,List.append_nil]at U;have HF:=ay (a4.o _ _ _ Oo (by rw[a5,U];exact I.o) c8.o);clear a5 U e4 a4 a9 I c8 e0;gi_wp2
     exact HF.o
    case done=>
     intro D W hD hI hK;rw[b9]at hI;obtain⟨vr,us,j,hc⟩:=hI;obtain⟨e1,e2⟩:=l3.o hc;have HF:Hh (∃v us,Ending.returned (.tuple #[vr,ai ((xQ tot:Nat):Int)])=.returned (.tuple #[v,ai VJ])/\RQ (W.drew.putObj D (.deferred none)) w.1.size v us RJ/\Bl w (W.drew.putObj D (.deferred none))):=ay (by
      have hp:=(KT.of_below (bJ _ _).drew (nR _):KT W.1.size W W.drew);have m0:=KT.put (X:=W.drew) (B:=w.1.size) (.deferred none) Oo hK rfl;rw[e1,e2];have j2:=(j.kt hp (by have:=j.ob.lt;omega)).kt m0 (nR _);exact⟨vr,us,rfl,j2.rq.base (Nat.le_succ _),j2.bel⟩)
     have c1:=j.rb.cell;have c2:=j.vb.cell;clear e1 e2 hc j l3 l4 b9 d9 i7;generalize xQ tot=vt at *;simp only[Exit.inBlock,Exit.then];go_upto_region 15 with fail;have n9:Tryz.prog.follows .mixedOrders=true:=Kl;go_region_law fail
     all_goals go_wp2_with fail
     all_goals exact⟨Ss,Or.inl ⟨D,_,rfl,run_takeDeferred hK,_,by simp[results,Tryz.results51,go_sem],HF.o⟩⟩
    case stop=>
     intro D c W hD hI hK;rw[d9]at hI;obtain⟨rfl,⟨i,M,V⟩,vr,cc,j⟩:=hI;obtain⟨e1,e2⟩:=l4.o i M V;have HF:Hh (∃v us,Ending.returned (.tuple #[vr,ai (-1)])=.returned (.tuple #[v,ai VJ])/\RQ (W.drew.putObj D (.deferred none)) w.1.size v us RJ/\Bl w (W.drew.putObj D (.deferred none))):=ay (by
      have hp:=(KT.of_below (bJ _ _).drew (nR _):KT W.1.size W W.drew);have m0:=KT.put (X:=W.drew) (B:=w.1.size) (.deferred none) Oo hK rfl;rw[e1,e2];have j2:=(j.kt hp (by have:=j.ob.lt;omega)).kt m0 (nR _);exact⟨vr,[],rfl,j2.rq.base (Nat.le_succ _),j2.bel⟩)
     have c1:=j.rb.cell;have c2:=j.vb.cell;clear e1 e2 j l3 l4 b9 d9 i7;gi_wp2
     go_upto_region 15 with fail;have n9:Tryz.prog.follows .mixedOrders=true:=Kl;go_region_law fail
     all_goals go_wp2_with fail
     all_goals exact⟨Ss,Or.inl ⟨D,_,rfl,run_takeDeferred hK,_,by simp[results,Tryz.results51,go_sem],HF.o⟩⟩
 have q8:(8:Int)<(n:Int):=Oo;have l1:Hh (okJ tl o=false):=ay (by rw[O.o,decide_eq_false h8];rfl);obtain⟨k1,k2⟩:=b8.o W1 (bJ _ _);clear O KO KA;go_wp2_with fail;exact⟨_,by simp[results,Tryz.results51,go_sem],i0.o _ (bJ _ _) l1.o⟩
theorem qGC{b:LI}:(plc (λi=>decide (vs.getD i 0∈b)) vs.length).length=(shr vs b).length:=by
 have h:=congrArg List.length (QH vs b);unfold atP at h;rw[lM]at h;exact h
theorem qEy{p:Nat->Bool}{k:Nat}:∀x∈plc p k,0<=x/\x<(k:Int):=λx I=>by
 obtain⟨i,K,-,rfl⟩:=yX.1 I;omega
theorem qGD(h:qU t=true)(b:LI):Qy t.vs t.rows t.ws (shr t.vs b)=true:=by
 have K:=(qZ h).1;unfold Qy;rw[bV,bV];exact⟨⟨h,qAs (Q7 (xJ K)) λx I=>ZM K (uI I)⟩,aT.2 λx I=>decide_eq_true (uI I)⟩
theorem TQ.tw{v0 v1 v2:Value}{us:List Value}{ws:LI}{rows:LL}(h:TQ W B v0 v1 v2 us vs rows ws):TW W B v0 v1 v2 us vs rows ws:=⟨h.o0,h.rq,h.o2,h.a02,h.a0,h.a2⟩
theorem QU(h:qU t=true):TvS t:=by
 obtain⟨K,O,M⟩:=qZ h;have U:=zK K;have V:t.ws.length=t.rows.length:=by
  have I:ql t.vs t.rows t.ws=true:=h;unfold ql at I;rw[bV,dE]at I;exact I.2
 refine⟨Oo,⟨Oo,λj=>?_⟩,Oo⟩;rw[gD];cases e:t.rows[j]? with
 |none=>exact nZ _
 |some r=>have:=M r (List.mem_of_getElem? e);show r.length<=_;omega
theorem yk{A X:World}(h:Bl A X)(o:Obj):Bl A (X.alloc o):=h.alloc h.size o
theorem Yc(w:World)(vb vt:Value)(b:LI)(tl:List TbV)(hb:IS w vb b)(h:ITs w vt tl)(i3:qV b=true)(hl:tl.length<=7)(e6:∀t∈tl,qU t=true):
 Cl 54 #[vb,vt] w λe w'=>∃x0 x1 x2 us,e=.returned (.tuple #[.agg #[x0,x1,x2],ai (bgV tl b)])/\TW w' w.1.size x0 x1 x2 us b (bgR tl b) (zF (bgR tl b).length)/\Bl w w':=by
 obtain⟨iT,hj,l3,l4,l5⟩:=info_parts Tryz.infoTb;have n5:Tryz.prog.follows .mixedOrders=true:=Kl;have l6:=zK i3;have c7:∀W:World,Bl W W.drew:=λW=>(bJ _ _).drew;obtain⟨U,c8⟩:=Ex (w.alloc (.cells #[sn,sn,sn] 61));have c9:Hh (Bl w U):=ay (by rw[c8];exact(bJ _ _).alloc (nR _) _);have i4:Hh (TX U w.1.size sn sn sn):=ay (by rw[c8];exact TX.made _ _ _ _);have d1:Hh (∀W,Bl U W->IS W vb b):=ay λW K=>hb.below (bt c9.o K);have KJ:Hh (∀W v I,Bl U W->TBs W U.1.size v I->I.map tvB=zO tl b->Cl 51 #[v,vb] W λe w'=>∃v us,e=.returned (.tuple #[v,ai (bgV tl b)])/\RQ w' W.1.size v us (bgR tl b)/\Bl W w'):=ay λW v I K hT he=>by
  refine kh W v vb (zO tl b) b (by rw[<-he];exact hT.its) (d1.o W K) (bM (kS tl b) Oo) Oo λt ht=>?_;obtain⟨s,hs,rfl⟩:=List.mem_map.1 ht;exact QU (qAt (e6 s (List.mem_filter.1 hs).1) b)
 have i5:Hh (∀W v n,Bl U W->(∃a c,v=.slice a n c)->n<=100000->Cl 78 #[vb,v] W λe w'=>∃v0 v2,e=.returned (.agg #[v0,v,v2])/\w'.ownsRow W.1.size 3 1 v0 b.length (b.map ai)/\w'.ownsRow W.1.size 3 1 v2 n (List.replicate n (ai 1))/\Ap' v0 v2/\Bl W w'):=ay λW v n K hv hn=>yz W vb v b n (d1.o W K) hv Oo hn;obtain⟨l7,ct,rfl,hc⟩:=h;have HC:Hh (∀W,Bl U W->∀j,j<tl.length->∃b oo,l7=some (az b oo)/\TabAt W b (oo+j*3) (tl.getD j qA)):=ay λW K j hj=>by
  rcases hc with h0|⟨b,oo,rfl,h⟩;omega;exact⟨b,oo,rfl,(h j hj).below (bt c9.o K)⟩
 have e7:Hh (∀j,j<tl.length->qU (tl.getD j qA)=true):=ay λj hj=>e6 _ (by rw[gD,gE hj];exact gM _);have e9:Hh (∀j,j<tl.length->zO (tl.take (j+1)) b=zO (tl.take j) b++(if hasB b (tl.getD j qA) then [prT b (tl.getD j qA)] else [])):=ay λj hj=>VV hj;have i6:Hh (∀j,(zO (tl.take j) b).length<=j):=ay λj=>bM (kS _ _) (by rw[bW];omega);have i7:Hh (zO (tl.take 0) b=[]):=ay rfl;have f7:Hh (zO (tl.take tl.length) b=zO tl b):=ay (by rw[tL]);have l8:Hh ((bgR tl b).length<=10000):=ay xx.1;obtain⟨n,hn⟩:=Ex tl.length;rw[<-hn]at hl HC e7 e9 f7 ⊢;clear hn hc e6;obtain⟨ab,cb,rfl,-⟩:=hb;obtain⟨nb,f8⟩:=Ex b.length;have i8:=ay f8;rw[<-f8]at KJ i5 d1 l6 ⊢;clear f8 i3;generalize bgV tl b=BV at *;generalize hBR:bgR tl b=BR at *;clear hBR;go_enter Tryz.func54,Tryz.ntmps54;go_upto_region 1 with fail;rw[<-c8];clear c8;go_wp2_with fail;go_loopw [6,14] (λu t wr=>∃(j:Nat) (vp:Value),j<=n/\t=ai j/\vp=u/\Hh (∃I,Bl U wr/\TBs wr U.1.size vp I/\I.map tvB=zO (tl.take j) b)) (λ_ t _=>n-(intOf t).toNat);exact⟨0,_,nZ _,rfl,rfl,ay ⟨[],bJ _ _,⟨oN _ _ _ _,λt ht=>by simp at ht,List.Pairwise.nil⟩,by rw[i7.o];rfl⟩⟩;obtain⟨j,vp,n7,rfl,rfl,HT⟩:=hrel;obtain⟨I,hB,hT,hE⟩:=HT.o;have HB:=ay hB;have a3:=ay hT;have HE:=ay hE;clear HT hB hT hE;by_cases f9:j<n
 ·have i1:(j:Int)<(n:Int):=Oo;obtain⟨bb,oo,ea,v0,v1,v2,c0,c1,c2,hI⟩:=HC.o wr HB.o j f9;subst ea;have a5:=ay (e9.o j f9);have a9:=e7.o j f9;generalize tl.getD j qA=tb at *;have b1:=ay a9;obtain⟨W3,d2⟩:=Ex (wr.alloc (.cells #[v0,v1,v2] 61));have g4:Bl wr W3:=by rw[d2];exact(bJ _ _).alloc (nR _) _
  have i9:Hh (TX W3 wr.1.size v0 v1 v2):=ay (by rw[d2];exact TX.made _ _ _ _);have d3:=ay (hI.below g4);have g5:=ay g4;obtain⟨a0,k0,e0,-⟩:=hI.vs;obtain⟨a1,k1,e1,-⟩:=hI.rows;obtain⟨a2,k2,e2,-⟩:=hI.ws;subst e0 e1 e2;have h6:=zK (qZ a9).1;have l9:=(qZ a9).2.1;have b7:Hh (Cl 75 #[.slice a0 tb.vs.length k0,.slice ab nb cb] W3 λe w'=>∃v,e=.returned v/\w'.ownsRow W3.1.size 3 1 v (shr tb.vs b).length ((plc (λi=>decide (tb.vs.getD i 0∈b)) tb.vs.length).map ai)/\Bl W3 w'):=ay (by
   have:=xI W3 (.slice a0 tb.vs.length k0) (.slice ab nb cb) tb.vs b d3.o.vs (d1.o W3 (bt HB.o g5.o)) Oo (by rw[<-i8.o];omega);rw[qGC]at this;exact this)
  have KV:Hh (∀W v,Bl W3 W->IS W v (plc (λi=>decide (tb.vs.getD i 0∈b)) tb.vs.length)->Cl 77 #[.slice a0 tb.vs.length k0,v] W λe w'=>∃v,e=.returned v/\w'.ownsRow W.1.size 3 1 v (shr tb.vs b).length ((shr tb.vs b).map ai)/\Bl W w'):=ay λW v K hv=>by
   have:=yZ W (.slice a0 tb.vs.length k0) v tb.vs _ (d3.o.below K).vs hv (bM (xp _ _) Oo) qEy;rw[QH]at this;exact this
  have j0:Hh (∀W v,Bl W3 W->IS W v (shr tb.vs b)->Cl 76 #[.agg #[.slice a0 tb.vs.length k0,.slice a1 tb.rows.length k1,.slice a2 tb.ws.length k2],v] W λe w'=>∃x0 x1 x2 us,e=.returned (.agg #[x0,x1,x2])/\TQ w' W.1.size x0 x1 x2 us (shr tb.vs b) (prR b tb) (zF (prR b tb).length)/\Bl W w'):=ay λW v K hv=>by
   have hS:=QU b1.o;have:=Y9 W _ _ _ v tb.vs tb.rows tb.ws (shr tb.vs b) (d3.o.below K) hv (bM (vE _ _) hS.vs) hS.vs hS.rows;refine this.mono ?_;rintro e w' ⟨x0,x1,x2,us,rfl,h1,h2⟩;rw[if_pos (qGD b1.o b)]at h1;exact⟨x0,x1,x2,us,rfl,h1,h2⟩
  have m3:(shr tb.vs b).length<=6:=bM (vE _ _) h6;have j1:hasB b tb=decide (0<(shr tb.vs b).length):=rfl;rw[j1]at a5;clear j1 hI a9 h6 l9 b1 d3 g4;obtain⟨ns,g6⟩:=Ex ((shr tb.vs b).length);have m4:=ay g6;rw[<-g6]at b7 KV a5 m3;clear g6;obtain⟨tv,g8⟩:=Ex (prT b tb);have m5:=ay g8;rw[<-g8]at a5;clear g8;generalize hpp:plc (λi=>decide (tb.vs.getD i 0∈b)) tb.vs.length=PP at *;clear hpp;generalize tb.vs.length=l0 at *;generalize tb.rows.length=l1 at *;generalize tb.ws.length=l2 at *;go_upto_region 5 with fail;rw[<-d2];clear d2 c0 c1 c2;have d0:=i9.o.c0;by_cases j2:0<ns
  ·have i2:(0:Int)<(ns:Int):=Oo;rw[decide_eq_true j2,if_pos rfl]at a5;go_upto_region 7 with (first|(go_at_call 75;refine b7.o.mono ?_;rintro e W4 ⟨v4,rfl,a6,a7⟩;obtain⟨a4,k4,e4⟩:=qG a6;subst e4)|fail);have d4:=ay (i9.o.below a7);have V:=ay (bt g5.o a7);have m6:Hh (IS W4 (.slice a4 ns k4) PP):=ay (by
    have h1:=a6.1;rw[lM]at h1;exact qS (by rw[show PP.length=ns by omega];exact a6))
   have d9:=ay a7;clear a6 a7 b7 d0;have j3:Hh (∀W,Bl W4 W->W.cell? (az wr.1.size 0)=some (.slice a0 l0 k0)/\W.cell? (az wr.1.size 1)=some (.slice a1 l1 k1)/\W.cell? (az wr.1.size 2)=some (.slice a2 l2 k2)):=ay λW K=>⟨(d4.o.below K).c0,(d4.o.below K).c1,(d4.o.below K).c2⟩;obtain⟨s0,s1,s2⟩:=j3.o W4.drew (c7 _);have m7:=ay (KV.o W4.drew _ (bt d9.o (c7 _)) (m6.o.below (c7 _)));have n8:U.1.size<=W4.1.size:=bM HB.o.size V.o.size;have n6:I.length<=7:=by have h1:=congrArg List.length HE.o;rw[lM]at h1;have h2:=i6.o j;omega
   have g9:Hh (∀W,Bl W4 W->W.ownsRow U.1.size 61 3 vp I.length (I.flatMap tcs)):=ay λW K=>qB a3.o.own (bt V.o K);have j4:Hh (∀W v,Bl W4 W->W.ownsRow W4.drew.1.size 3 1 v ns ((shr tb.vs b).map ai)->Cl 76 #[.agg #[.slice a0 l0 k0,.slice a1 l1 k1,.slice a2 l2 k2],v] W λe w'=>∃(q0:Option Addr) (m0 z0:Nat) (q1:Option Addr) (m1 z1:Nat) (q2:Option Addr) (m2 z2:Nat) (us:List Value),e=.returned (.agg #[.slice q0 m0 z0,.slice q1 m1 z1,.slice q2 m2 z2])/\TWr w' wr.1.size ⟨.slice q0 m0 z0,.slice q1 m1 z1,.slice q2 m2 z2,us,tv.vs,tv.rows,tv.ws⟩/\Bl W4 w'):=ay λW v K hv=>by
    refine(j0.o W v (bt d9.o K) (qS (by rw[<-m4.o];exact hv))).mono ?_;rintro e w' ⟨x0,x1,x2,us,rfl,hT,m8⟩;obtain⟨q0,z0,e0⟩:=qG hT.o0;obtain⟨q1,z1,e1⟩:=qG hT.rq.own;obtain⟨q2,z2,e2⟩:=qG hT.o2;subst e0 e1 e2;exact⟨_,_,_,_,_,_,_,_,_,us,rfl,by rw[m5.o];exact hT.tw.base (bM V.o.size K.size),bt K m8⟩
   clear KV j0 d4;go_region_law (first
    |(refine step_append_lies _ Fl _ _ _ Fl U.1.size 61 iT (.agg #[sn,sn,sn]) 3 72 Tryz.underlying32 hj l3 l4 l5 rfl Dd vp I.length _ Fl ((g9.o _ b0).alloc _) (az w6.1.size 0) 1 1 [.slice q0 m0 z0,.slice q1 m1 z1,.slice q2 m2 z2] Fl Fl (xd _ _ _ _ _) (λu hu=>by simp at hu;rcases hu with rfl|rfl|rfl <;> rfl) Dd Um Oo (by have:=b0.size;simp;omega) _ rfl ?_;intro g7 m9 w7 b8 O j5 h3)
    |(go_simp;go_at_call 77;refine m7.o.mono ?_;rintro e w5 ⟨v5,rfl,n1,j6⟩;have k3:Bl W4 w5:=bt (c7 _) j6;obtain⟨r0,r1,r2⟩:=j3.o w5 k3)
    |(go_simp;go_at_call 76;refine(j4.o w5 v5 k3 n1).mono ?_;rintro e w6 ⟨q0,m0,z0,q1,m1,z1,q2,m2,z2,n2,rfl,k5,b0⟩)
    |fail)
   all_goals(
    have HN:Hh (∃e3,Bl U w7/\TBs w7 U.1.size (.slice (some (az g7 0)) (I.length+1) m9) e3/\e3.map tvB=zO (tl.take (j+1)) b):=ay ⟨_,(yk (bt HB.o (bt V.o b0)) _).grown O (by have:=b0.size;simp;omega) (λq hq=>((g9.o _ b0).lt q hq).1),a3.o.row HB.o.size w6 ⟨.slice q0 m0 z0,.slice q1 m1 z1,.slice q2 m2 z2,n2,tv.vs,tv.rows,tv.ws⟩ _ w7 _ (bt V.o b0) k5 O b8,by rw[mA,HE.o,a5.o];rfl⟩)
   all_goals clear HB a3 HE g9 b8 O j5 h3 k5
   all_goals try simp only[Exit.inBlock,Exit.then]
   all_goals go_wp2_with fail
   all_goals go_roundw
   all_goals first
    |exact⟨j+1,_,Oo,Gg,rfl,HN⟩
    |(simp[intOf];omega)
  obtain rfl:ns=0:=Oo;rw[show decide (0<0)=false from rfl,if_neg Dd,List.append_nil]at a5;go_wp2_with (first|(go_at_call 75;refine b7.o.mono ?_;rintro e W4 ⟨v4,rfl,a6,a7⟩;obtain⟨a4,k4,e4⟩:=qG a6;subst e4;have V:=ay (bt g5.o a7);clear a6 a7 b7 d0)|fail);go_roundw;exact⟨j+1,_,Oo,Gg,rfl,ay ⟨I,bt HB.o V.o,a3.o.below V.o,by rw[a5.o];exact HE.o⟩⟩;exact Im
 obtain rfl:j=n:=Oo;have i1:¬((j:Int)<(j:Int)):=Oo;have k6:=ay (KJ.o wr vp I HB.o a3.o (HE.o.trans f7.o));have HX:=ay (i4.o.below HB.o);obtain⟨av,cv,ev⟩:=qG a3.o.own;subst ev;clear KJ a3 HE HC e7 e9 i6 f7 i7 i4;go_upto_region 10 with (first|(go_at_call 51;refine k6.o.mono ?_;rintro e w8 ⟨v8,h4,rfl,h5,d5⟩;obtain⟨a8,k8,e8⟩:=h5.sl;subst e8)|fail);have b9:=ay h5;have k7:=ay (HX.o.below d5);have h7:=ay (bt HB.o d5);have n9:U.1.size<=w8.1.size:=h7.o.size;have k9:wr.1.size<=w8.1.size:=d5.size;have h8:w.1.size<=wr.1.size:=bM c9.o.size HB.o.size;clear h5 d5 k6 HX;have h9:=ay (i5.o w8 (.slice a8 BR.length k8) BR.length h7.o ⟨_,_,rfl⟩ (by have:=l8.o;omega));obtain⟨nr,i0⟩:=Ex BR.length;have n3:=ay i0;rw[<-i0]at h9 b9 ⊢;clear i0;go_wp2_with (first|(go_at_call 78;refine h9.o.mono ?_;rintro e w9 ⟨v0,v2,rfl,d6,d7,n4,d8⟩;obtain⟨q0,z0,e0⟩:=qG d6;obtain⟨q2,z2,e2⟩:=qG d7;subst e0 e2;have M:=k7.o.below d8;have t0:=M.c0;have t1:=M.c1;have t2:=M.c2;have f0:=M.free 0;have f1:=M.free 1;have f2:=M.free 2)|fail);have e5:Hh (∀y0 y1 y2,TW (((w9.setCell (az w.1.size 0) y0).setCell (az w.1.size 1) y1).setCell (az w.1.size 2) y2) w.1.size (.slice q0 nb z0) (.slice a8 nr k8) (.slice q2 nr z2) h4 b BR (zF BR.length)/\Bl w (((w9.setCell (az w.1.size 0) y0).setCell (az w.1.size 1) y1).setCell (az w.1.size 2) y2)):=ay λy0 y1 y2=>by
  have hT:TQ w9 w.1.size (.slice q0 nb z0) (.slice a8 nr k8) (.slice q2 nr z2) h4 b BR (zF BR.length):=by
   refine⟨?_,(b9.o.below d8).base h8,?_,n4,λi hi g h1 h2=>?_,λi hi g h1 h2=>?_⟩;rw[<-i8.o];exact qF d6 (bM h8 k9);rw[xg,vB,<-n3.o];exact qF d7 (bM h8 k9);have:=((b9.o.each i hi).lt g h1).2;have:=(d6.lt g h2).1;omega;have:=((b9.o.each i hi).lt g h1).2;have:=(d7.lt g h2).1;omega
  exact⟨(((hT.set M.typ).set (qX M.typ)).set (qX (qX M.typ))).tw,(((bt (bt c9.o h7.o) d8).setCell (nR _) _).setCell (nR _) _).setCell (nR _) _⟩
 clear k7 b9 d6 d7 M h9 d8;refine bodyPost_ret (v:=.tuple #[.agg #[.slice q0 nb z0,.slice a8 nr k8,.slice q2 nr z2],ai BV]) (by simp[results,Tryz.results54,go_sem,t0,t1,t2]) rfl ?_;exact⟨_,_,_,h4,rfl,(e5.o _ _ _).1,(e5.o _ _ _).2⟩
structure WoS(w W:World)(B:Nat)(v:Value)(rl:List TbC):Prop where
 own:W.ownsRow B 61 3 v rl.length (rl.flatMap tcc)
 el:∀r∈rl,ITc w r
theorem WoS.its{v:Value}{rl:List TbC}(h:WoS w W B v rl)(hb:Bl w W):ITs W v (rl.map TbC.t):=by
 obtain⟨a,cap,e,K⟩:=XZ tcc (λ_=>rfl) Ys h.own;refine⟨a,cap,by rw[lM];exact e,?_⟩;rcases K with M|⟨g,O,-,K⟩;exact Or.inl (by rw[lM];exact M);refine Or.inr ⟨g,0,O,λj I=>?_⟩;rw[lM]at I;have U:ITc W (rl.getD j Ys):=(h.el _ (yC I)).below hb;have V:(rl.map TbC.t).getD j qA=(rl.getD j Ys).t:=by
  rw[gD,gD,bK,gE I];rfl
 rw[V,Nat.zero_add];exact⟨_,_,_,K j 0 I Oo,K j 1 I Oo,K j 2 I Oo,U⟩
theorem WoS.push{w3:World}{g c:Nat}{v:Value}{rl:List TbC}{r:TbC}(h:WoS w W B v rl)(K:ITc w r)(I:w3.ownsRow B 61 3 (.slice (some (az g 0)) (rl.length+1) c) (rl.length+1) (rl.flatMap tcc++[r.v0,r.v1,r.v2])):
 WoS w w3 B (.slice (some (az g 0)) (rl.length+1) c) (rl++[r]):=by
 refine⟨by rw[lA,lS,List.flatMap_append];simpa[tcc]using I,λq hq=>?_⟩;rcases List.mem_append.1 hq with hq|hq;exact h.el q hq;rw[List.mem_singleton.1 hq];exact K
theorem qER{tl:List TbV}{j:Nat}(I:j<tl.length):woJ (tl.take (j+1))=woJ (tl.take j)++(if (tl.getD j qA).vs.length=0 then [tl.getD j qA] else []):=by
 unfold woJ;rw[tA,gE I,List.filter_append,gdR I];show _++List.filter _ [tl[j]]=_;rw[List.filter_cons];by_cases e:tl[j].vs.length=0;rw[if_pos e,decide_eq_true e,if_pos rfl];rfl;rw[if_neg e,decide_eq_false e,if_neg Dd];rfl
theorem VC(w:World)(vt:Value)(tl:List TbV)(h:ITs w vt tl)(hl:tl.length<=7)(d8:∀t∈tl,qU t=true):
 Cl 55 #[vt] w λe w'=>∃x0 x1 x2 us,e=.returned (.agg #[x0,x1,x2])/\TW w' w.1.size x0 x1 x2 us [] (yd tl) (zF (yd tl).length)/\Bl w w':=by
 obtain⟨iT,hj,g7,g8,h3⟩:=info_parts Tryz.infoTb;have i0:Tryz.prog.follows .mixedOrders=true:=Kl;obtain⟨M,a9⟩:=Ex (w.alloc (.cells #[sn,sn,sn] 61));have U:Hh (Bl w M):=ay (by rw[a9];exact(bJ _ _).alloc (nR _) _);have d9:Hh (TX M w.1.size sn sn sn):=ay (by rw[a9];exact TX.made _ _ _ _);have KJ:Hh (∀W v rl,Bl M W->WoS w W M.1.size v rl->rl.map TbC.t=woJ tl->Cl 51 #[v,sn] W λe w'=>∃v us,e=.returned (.tuple #[v,ai (qw (woJ tl) [])])/\RQ w' W.1.size v us (yd tl)/\Bl W w'):=ay λW v rl hW hT he=>
  kh W v _ (woJ tl) [] (by rw[<-he];exact hT.its (bt U.o hW)) ⟨none,0,rfl,Or.inl rfl⟩ (bM (List.length_filter_le _ _) Oo) Ss λt ht=>QU (d8 t (List.mem_filter.1 ht).1)
 have h4:Hh (∀W v n,(∃a c,v=.slice a n c)->n<=100000->Cl 78 #[sn,v] W λe w'=>∃v0 v2,e=.returned (.agg #[v0,v,v2])/\w'.ownsRow W.1.size 3 1 v0 0 []/\w'.ownsRow W.1.size 3 1 v2 n (List.replicate n (ai 1))/\Ap' v0 v2/\Bl W w'):=ay λW v n hv hn=>yz W sn v [] n ⟨none,0,rfl,Or.inl rfl⟩ hv Ss hn;obtain⟨h5,ct,rfl,hc⟩:=h;have HC:Hh (∀j,j<tl.length->∃(b oo:Nat) (v0 v1 v2:Value),h5=some (az b oo)/\IT w v0 v1 v2 (tl.getD j qA).vs (tl.getD j qA).rows (tl.getD j qA).ws/\∀W,Bl M W->W.cell? (az b (oo+j*3))=some v0/\W.cell? (az b (oo+j*3+1))=some v1/\W.cell? (az b (oo+j*3+2))=some v2):=ay λj hj=>by
  rcases hc with h0|⟨b,oo,rfl,h⟩;omega;obtain⟨v0,v1,v2,c0,c1,c2,hI⟩:=h j hj;exact⟨b,oo,v0,v1,v2,rfl,hI,λW hW=>⟨qJ (bt U.o hW) c0,qJ (bt U.o hW) c1,qJ (bt U.o hW) c2⟩⟩
 have c7:Hh (∀j,j<tl.length->woJ (tl.take (j+1))=woJ (tl.take j)++(if (tl.getD j qA).vs.length=0 then [tl.getD j qA] else [])):=ay λj hj=>qER hj;have e3:Hh (∀j,(woJ (tl.take j)).length<=j):=ay λj=>bM (List.length_filter_le _ _) (by rw[bW];omega);have e4:Hh (woJ (tl.take 0)=[]):=ay rfl;have c8:Hh (woJ (tl.take tl.length)=woJ tl):=ay (by rw[tL]);have h6:Hh ((yd tl).length<=10000):=ay xx.1;obtain⟨n,hn⟩:=Ex tl.length;rw[<-hn]at hl HC c7 c8 ⊢;clear hn hc d8;generalize qw (woJ tl) []=BV at *;generalize hBR:yd tl=BR at *;clear hBR;go_enter Tryz.func55,Tryz.ntmps55;go_upto_region 1 with fail;rw[<-a9];clear a9;go_wp2_with fail;go_loopw [3,10] (λu t wr=>∃(j:Nat) (vp:Value),j<=n/\t=ai j/\vp=u/\Hh (∃rl,Bl M wr/\WoS w wr M.1.size vp rl/\rl.map TbC.t=woJ (tl.take j))) (λ_ t _=>n-(intOf t).toNat);exact⟨0,_,nZ _,rfl,rfl,ay ⟨[],bJ _ _,⟨oN _ _ _ _,λt ht=>by simp at ht⟩,by rw[e4.o];rfl⟩⟩;obtain⟨j,vp,i4,rfl,rfl,HT⟩:=hrel;obtain⟨rl,hB,hT,hE⟩:=HT.o;have HB:=ay hB;have K:=ay hT;have HE:=ay hE;clear HT hB hT hE;by_cases e5:j<n
 ·have i1:(j:Int)<(n:Int):=Oo;obtain⟨bb,oo,v0,v1,v2,ea,hI,e6⟩:=HC.o j e5;subst ea;obtain⟨c0,c1,c2⟩:=e6 wr HB.o;have V:=ay (c7.o j e5);generalize tl.getD j qA=tb at *;have HI:=ay hI;obtain⟨W3,a3⟩:=Ex (wr.alloc (.cells #[v0,v1,v2] 61));have e7:Bl wr W3:=by rw[a3];exact(bJ _ _).alloc (nR _) _
  have a4:Hh (TX W3 wr.1.size v0 v1 v2):=ay (by rw[a3];exact TX.made _ _ _ _);have a5:=ay e7;obtain⟨a0,k0,e0,-⟩:=hI.vs;obtain⟨a1,k1,e1,-⟩:=hI.rows;obtain⟨a2,k2,e2,-⟩:=hI.ws;subst e0 e1 e2;clear hI e6 e7;obtain⟨l0,e9⟩:=Ex tb.vs.length;rw[<-e9]at V HI a4 a3 c0;clear e9;go_upto_region 5 with fail;rw[<-a3];clear a3 c0 c1 c2;have d0:=a4.o.c0;have d1:=a4.o.c1;have d2:=a4.o.c2;have i5:rl.length<=7:=by have h1:=congrArg List.length HE.o;rw[lM]at h1;have h2:=e3.o j;omega
  have i6:M.1.size<=W3.1.size:=bM HB.o.size a5.o.size;by_cases hz:l0=0
  ·rw[if_pos hz]at V;subst hz;have c9:=ay (qB K.o.own a5.o);go_wp2_with (first|(at_builtin;refine wpList_append_lies _ rfl _ _ 32 rfl M.1.size 61 iT (.agg #[sn,sn,sn]) 3 72 Tryz.underlying32 hj g7 g8 h3 rfl Dd vp rl.length (rl.flatMap tcc) rfl (c9.o.alloc _) (az _ 0) 1 1 [.slice a0 0 k0,.slice a1 tb.rows.length k1,.slice a2 tb.ws.length k2] rfl rfl (xd _ _ _ _ _) (λu hu=>by simp at hu;rcases hu with rfl|rfl|rfl <;> rfl) Dd Um Oo Sy _ rfl ?_;intro g9 h7 w9 a6 O f7 f8)|fail);have HN:Hh (∃rl',Bl M w9/\WoS w w9 M.1.size (.slice (some (az g9 0)) (rl.length+1) h7) rl'/\rl'.map TbC.t=woJ (tl.take (j+1))):=ay ⟨_,(yk (bt HB.o a5.o) _).grown O Sy (λq hq=>(c9.o.lt q hq).1),K.o.push (r:=⟨.slice a0 0 k0,.slice a1 tb.rows.length k1,.slice a2 tb.ws.length k2,tb⟩) HI.o a6,by rw[mA,HE.o,V.o];rfl⟩;clear a6 O f7 f8 c9 K HE V HI d0 d1 d2 a4;go_wp2_with fail;go_roundw;exact⟨j+1,_,Oo,Gg,rfl,HN⟩;exact Im
  rw[if_neg hz,List.append_nil]at V;have i2:((l0:Int) == 0)=false:=Sy;have i3:¬((l0:Int)=0):=Oo;have HN:Hh (∃rl',Bl M W3/\WoS w W3 M.1.size vp rl'/\rl'.map TbC.t=woJ (tl.take (j+1))):=ay ⟨rl,bt HB.o a5.o,⟨qB K.o.own a5.o,K.o.el⟩,by rw[V.o];exact HE.o⟩;go_wp2_with fail;go_roundw;exact⟨j+1,_,Oo,Gg,rfl,HN⟩;exact Im
 obtain rfl:j=n:=Oo;have i1:¬((j:Int)<(j:Int)):=Oo;have f9:=ay (KJ.o wr vp rl HB.o K.o (HE.o.trans c8.o));have HX:=ay (d9.o.below HB.o);obtain⟨av,cv,ev⟩:=qG K.o.own;subst ev;clear KJ K HE HC c7 e3 c8 e4 d9;go_upto_region 9 with (first|(go_at_call 51;refine f9.o.mono ?_;rintro e w8 ⟨v8,d3,rfl,d4,b0⟩;obtain⟨a8,k8,e8⟩:=d4.sl;subst e8)|fail);have a7:=ay d4;have g4:=ay (HX.o.below b0);have g5:=ay (bt HB.o b0);have i7:M.1.size<=w8.1.size:=g5.o.size;have g6:wr.1.size<=w8.1.size:=b0.size;have d5:w.1.size<=wr.1.size:=bM U.o.size HB.o.size;clear d4 b0 f9 HX;have d6:=ay (h4.o w8 (.slice a8 BR.length k8) BR.length ⟨_,_,rfl⟩ (by have:=h6.o;omega));obtain⟨nr,d7⟩:=Ex BR.length;have h8:=ay d7;rw[<-d7]at d6 a7 ⊢;clear d7;go_wp2_with (first|(go_at_call 78;refine d6.o.mono ?_;rintro e w9 ⟨v0,v2,rfl,b1,b7,h9,b8⟩;obtain⟨q0,z0,e0⟩:=qG b1;obtain⟨q2,z2,e2⟩:=qG b7;subst e0 e2;have I:=g4.o.below b8;have t0:=I.c0;have t1:=I.c1;have t2:=I.c2;have f0:=I.free 0;have f1:=I.free 1;have f2:=I.free 2)|fail);have b9:Hh (∀y0 y1 y2,TW (((w9.setCell (az w.1.size 0) y0).setCell (az w.1.size 1) y1).setCell (az w.1.size 2) y2) w.1.size (.slice q0 0 z0) (.slice a8 nr k8) (.slice q2 nr z2) d3 [] BR (zF BR.length)/\Bl w (((w9.setCell (az w.1.size 0) y0).setCell (az w.1.size 1) y1).setCell (az w.1.size 2) y2)):=ay λy0 y1 y2=>by
  have hT:TQ w9 w.1.size (.slice q0 0 z0) (.slice a8 nr k8) (.slice q2 nr z2) d3 [] BR (zF BR.length):=by
   refine⟨?_,(a7.o.below b8).base d5,?_,h9,λi hi g h1 h2=>?_,λi hi g h1 h2=>?_⟩;exact qF b1 (bM d5 g6);rw[xg,vB,<-h8.o];exact qF b7 (bM d5 g6);have:=((a7.o.each i hi).lt g h1).2;have:=(b1.lt g h2).1;omega;have:=((a7.o.each i hi).lt g h1).2;have:=(b7.lt g h2).1;omega
  exact⟨(((hT.set I.typ).set (qX I.typ)).set (qX (qX I.typ))).tw,(((bt (bt U.o g5.o) b8).setCell (nR _) _).setCell (nR _) _).setCell (nR _) _⟩
 clear g4 a7 b1 b7 I d6 b8;refine bodyPost_ret (v:=.agg #[.slice q0 0 z0,.slice a8 nr k8,.slice q2 nr z2]) (by simp[results,Tryz.results55,go_sem,t0,t1,t2]) rfl ?_;exact⟨_,_,_,d3,rfl,(b9.o _ _ _).1,(b9.o _ _ _).2⟩
end Go.Proofs.YtcnfapnfmnolbaaGreat
