import Derived.Ground.SlgmProg
import Derived.Lib.SlKeysI
import Derived.RangeFuncBox
import Derived.Shelf.SortM.Plain
import Derived.Shelf.SortM.SortNone
import Derived.Test.YtkaipapdlnojiaaGreatWq42
set_option maxHeartbeats 40000000
set_option maxRecDepth 1000000
namespace Go.Proofs
open Go.Shelf
def Tryz.sortA_ren : Go.Shelf.Ren := ⟨λ| 5 => 102 | 8 => 122 | 7 => 121 | 19 => 146 | 20 => 147 | 10 => 138 | 11 => 139 | 12 => 140 | 13 => 141 | 14 => 142 | 15 => 143 | 16 => 123 | 17 => 144 | 18 => 145 | 30 => 153 | 31 => 154 | 32 => 155 | 33 => 156 | 34 => 157 | 35 => 148 | 40 => 166 | n => n, λ| 23 => 25 | 25 => 3 | 3 => 3 | 32 => 170 | 22 => 25 | 0 => 0 | 44 => 194 | 46 => 196 | 4 => 4 | 36 => 188 | 35 => 187 | 41 => 153 | 5 => 5 | 9 => 9 | 53 => 201 | 57 => 205 | 63 => 212 | 64 => 213 | n => n, λ| n => n⟩
theorem Tryz.sortA : Go.Proofs.SlLaysM.n5 Tryz.prog Tryz.sortA_ren := {
  mixed := by kernel_rfl
  f5 := ⟨Tryz.f102.name, by decide, Tryz.func102.trans (congrArg some (by kernel_rfl))⟩
  f7 := ⟨Tryz.f121.name, by decide, Tryz.func121.trans (congrArg some (by kernel_rfl))⟩
  f8 := Tryz.func122.trans (congrArg some (by kernel_rfl))
  f10 := ⟨Tryz.f138.name, by decide, Tryz.func138.trans (congrArg some (by kernel_rfl))⟩
  f11 := ⟨Tryz.f139.name, by decide, Tryz.func139.trans (congrArg some (by kernel_rfl))⟩
  f12 := ⟨Tryz.f140.name, by decide, Tryz.func140.trans (congrArg some (by kernel_rfl))⟩
  f13 := ⟨Tryz.f141.name, by decide, Tryz.func141.trans (congrArg some (by kernel_rfl))⟩
  f14 := ⟨Tryz.f142.name, by decide, Tryz.func142.trans (congrArg some (by kernel_rfl))⟩
  f15 := ⟨Tryz.f143.name, by decide, Tryz.func143.trans (congrArg some (by kernel_rfl))⟩
  f16 := ⟨Tryz.f123.name, by decide, Tryz.func123.trans (congrArg some (by kernel_rfl))⟩
  f17 := ⟨Tryz.f144.name, by decide, Tryz.func144.trans (congrArg some (by kernel_rfl))⟩
  f18 := ⟨Tryz.f145.name, by decide, Tryz.func145.trans (congrArg some (by kernel_rfl))⟩
  f19 := Tryz.func146.trans (congrArg some (by kernel_rfl))
  f20 := Tryz.func147.trans (congrArg some (by kernel_rfl))
  f30 := ⟨Tryz.f153.name, by decide, Tryz.func153.trans (congrArg some (by kernel_rfl))⟩
  f31 := Tryz.func154.trans (congrArg some (by kernel_rfl))
  f32 := Tryz.func155.trans (congrArg some (by kernel_rfl))
  f33 := ⟨Tryz.f156.name, by decide, Tryz.func156.trans (congrArg some (by kernel_rfl))⟩
  f34 := ⟨Tryz.f157.name, by decide, Tryz.func157.trans (congrArg some (by kernel_rfl))⟩
  f35 := ⟨Tryz.f148.name, by decide, Tryz.func148.trans (congrArg some (by kernel_rfl))⟩
  f40 := ⟨Tryz.f166.name, by decide, Tryz.func166.trans (congrArg some (by kernel_rfl))⟩
  t0 := Tryz.underlying0
  a0 := Tryz.isAgg0
  z0 := Tryz.sizeOf0
  v0 := Tryz.zeroValue0
  t3 := Tryz.underlying3
  a3 := Tryz.isAgg3
  z3 := Tryz.sizeOf3
  v3 := Tryz.zeroValue3
  t4 := Tryz.underlying4
  a4 := Tryz.isAgg4
  z4 := Tryz.sizeOf4
  v4 := Tryz.zeroValue4
  t5 := Tryz.underlying5
  a5 := Tryz.isAgg5
  z5 := Tryz.sizeOf5
  v5 := Tryz.zeroValue5
  t9 := Tryz.underlying9
  a9 := Tryz.isAgg9
  z9 := Tryz.sizeOf9
  v9 := Tryz.zeroValue9
  t22 := Tryz.underlying25
  a22 := Tryz.isAgg25
  z22 := Tryz.sizeOf25
  v22 := Tryz.zeroValue25
  t23 := Tryz.underlying25
  a23 := Tryz.isAgg25
  z23 := Tryz.sizeOf25
  v23 := Tryz.zeroValue25
  t25 := Tryz.underlying3
  a25 := Tryz.isAgg3
  z25 := Tryz.sizeOf3
  v25 := Tryz.zeroValue3
  t32 := Tryz.underlying170
  a32 := Tryz.isAgg170
  z32 := Tryz.sizeOf170
  v32 := Tryz.zeroValue170
  t35 := Tryz.underlying187
  a35 := Tryz.isAgg187
  z35 := Tryz.sizeOf187
  v35 := Tryz.zeroValue187
  t36 := Tryz.underlying188
  a36 := Tryz.isAgg188
  z36 := Tryz.sizeOf188
  v36 := Tryz.zeroValue188
  t41 := Tryz.underlying153
  a41 := Tryz.isAgg153
  z41 := Tryz.sizeOf153
  v41 := Tryz.zeroValue153
  t44 := Tryz.underlying194
  a44 := Tryz.isAgg194
  z44 := Tryz.sizeOf194
  v44 := Tryz.zeroValue194
  t46 := Tryz.underlying196
  a46 := Tryz.isAgg196
  z46 := Tryz.sizeOf196
  v46 := Tryz.zeroValue196
  t53 := Tryz.underlying201
  a53 := Tryz.isAgg201
  z53 := Tryz.sizeOf201
  v53 := Tryz.zeroValue201
  t57 := Tryz.underlying205
  a57 := Tryz.isAgg205
  z57 := Tryz.sizeOf205
  v57 := Tryz.zeroValue205
  t63 := Tryz.underlying212
  a63 := Tryz.isAgg212
  z63 := Tryz.sizeOf212
  v63 := Tryz.zeroValue212
  t64 := Tryz.underlying213
  a64 := Tryz.isAgg213
  z64 := Tryz.sizeOf213
  v64 := Tryz.zeroValue213 }
end Go.Proofs
namespace Go.Proofs.YtkaipapdlnojiaaGreat
open Go.RowKit Meet Go.Shelf
variable {v:Nat}
attribute [local go_sem] Oper.semAt_some
theorem VQ(w:World)(a:Option Addr)(n c:Nat):
 Cl 62 #[.slice a n c] w λe w'=>e=.returned (.func (.func 103) #[] #[.pointer (some ⟨w.heap.size,0,none⟩)])/\w'=w.alloc (.cells #[.slice a n c] 25):=by
 go_enter Tryz.func62,Tryz.ntmps62
 go_wp2;go_ret;exact⟨rfl,rfl⟩
theorem VR(w:World)(bS:Nat)(vs:Value)(ls:List Int)(hb:w.heap[bS]?=some (.cells #[vs] 25 (0,0)))(h:IS w vs ls)(hl:ls.length<=1099511627776):
 Gives Tryz.prog 103 #[.pointer (some ⟨bS,0,none⟩)] (λx:Int=>#[.int .i64 x]) (λ_=>Below w.heap.size) (λ_ _ _=>True) (λpre x b _ _=>b=x/\pre.length < ls.length) ls w:=by
 intro l J Jx W M b9 c7 hJ c8 hY h0;show Calls _ _ #[.func (.yield l) #[] #[],.pointer (some ⟨bS,0,none⟩)] W _;have a5:W.cell? ⟨bS,0,none⟩=some vs:=by rw[cell_of_row _ _ _ _ _ _ ((M.block _ (qP hb)).trans hb)];rfl
 obtain⟨a,cap,rfl,hc⟩:=h
 have HC:Hid (∀W',Bl w W'->∀j,j < ls.length->∃b o,a=some ⟨b,o,none⟩/\W'.cell? ⟨b,o+j,none⟩=some (.int .i64 (ls.getD j 0))):=hid λW' a6 j hj=>by
  rcases hc with h0|⟨b,o,rfl,h⟩
  ·omega
  ·exact⟨b,o,rfl,uE a6 (h j hj)⟩
 have HT:Hid (∀j,j < ls.length->ls.take (j+1)=ls.take j++[ls.getD j 0]):=hid λj hj=>zA hj;have U:Hid (ls.take ls.length=ls):=hid (tL);have I:=hid hY;have HJ:=hid hJ;have a7:=hid M;have a8:Hid (J (ls.take 0) W):=hid h0;clear hb hc hY hJ h0 M;obtain⟨n,hn⟩:∃n,n=ls.length:=⟨_,rfl⟩;rw[<-hn]at hl HC HT U a5 I;have a9:Hid (∀j,j<=n->(ls.take j).length=j):=hid λj hj=>by rw[bZ];omega
 clear hn;go_enter Tryz.func103,Tryz.ntmps103
 go_wp2_with fail
 go_loopw [7] (λt wr=>∃(j:Nat),j<=n/\t=.int .i64 j/\Hid (∃X,J (ls.take j) X/\KT W.heap.size X wr/\Bl w wr)) (λt _=>n - (intOf t).toNat)
 case atStart=>exact⟨0,nZ _,rfl,hid ⟨W,a8.out,KT.refl _ _,a7.out⟩⟩
 case round=>
  obtain⟨j,b0,rfl,K⟩:=hrel;by_cases O:j < n
  ·have i1:(j:Int) < (n:Int):=Oo;obtain⟨X,V,h2,h3⟩:=K.out;obtain⟨b,o,ea,c1⟩:=HC.out wr h3 j O;subst ea;obtain⟨fn,tmps,assign,body,hy,hR⟩:=I.out (ls.take j) (ls.getD j 0) (ls.getD j 0) X wr V h2 ⟨rfl,by rw[a9.out j b0];exact O⟩;have HN:Hid (∀Z,J (ls.take j++[ls.getD j 0]) Z->Below w.heap.size wr Z->∃X,J (ls.take (j+1)) X/\KT W.heap.size X Z/\Bl w Z):=hid λZ g1 g2=>⟨Z,by rw[HT.out j O];exact g1,KT.refl _ _,h3.trans g2⟩;have HR:=hid hR;clear hR V h2 h3 K HC I;generalize ls.getD j 0=x at *;refine(wpIn_wide (n:=0)).1 ?_;gi_wp2
   refine⟨rfl,?_⟩;refine HR.out.mono ?_;rintro e w9 (⟨rfl,a2,a3⟩|⟨rfl,a4,-⟩)
   ·have b7:=hid (HN.out w9 a2 a3);clear a2 a3 hy HR HN;gi_wp2
    go_wp2_with fail
    go_roundw
    case rel=>exact⟨j+1,Oo,Gg,b7⟩
    case measure=>simp[intOf];omega
   ·clear hy HR HN;gi_wp2
    go_wp2_with fail
    refine bodyPost_ret (P:=Tryz.prog) (fn:=Tryz.f103) (R:=λe W'=>(∃v,e=.returned v)/\(J ls W'∨Jx W')) (results_none rfl _ _ _) rfl ?_;exact⟨⟨_,rfl⟩,Or.inr a4⟩
  ·obtain rfl:j=n:=Oo;have i1:¬((j:Int) < (j:Int)):=Oo
   have HF:Hid (J ls wr):=hid (by
    obtain⟨X,V,h2,h3⟩:=K.out;rw[U.out]at V;exact HJ.out _ _ _ V h2)
   clear K HC I;go_wp2_with fail
   go_end0
   exact⟨⟨_,rfl⟩,Or.inl HF.out⟩
theorem Gives.later{α β:Type}{P:Program}{gf:Nat}{lb:Array Value}{I:β->Array Value}{M O:Nat->World->World->Prop}{K:List α->α->β->World->World->Prop}{xs:List α}{w w':World}(h:Gives P gf lb I M O K xs w)(hb:Bl w w'):Gives P gf lb I M O K xs w':=
 λl J U W V h1 h2=>h l J U W (hb.trans (V.mono hb.size)) h1 (bQ hb.size h2)
theorem XB(w:World)(gf:Nat)(lb:Array Value)(ls:List Int)(hl:ls.length<=1048576)(eg:∀args W,(callFunc gf args).run Tryz.prog W=.ok (.enter gf args) W)
 (a4:Gives Tryz.prog gf lb (λx:Int=>#[.int .i64 x]) (λ_=>Below w.heap.size) (λ_ _ _=>True) (λpre x b _ _=>b=x/\pre.length < ls.length) ls w):
 Cl 120 #[.slice none 0 0,.func (.func gf) #[] lb] w λe w'=>∃v,e=.returned v/\w'.ownsRow w.heap.size 3 1 v ls.length (ls.map (Value.int .i64))/\Bl w w':=by
 obtain⟨U,M⟩:∃U,U=w.alloc (.cells #[.slice none 0 0] 25):=⟨_,rfl⟩;have a5:Bl w U:=by rw[M];exact qE (bM _ _) _
 have b0:U.heap[w.heap.size]?=some (.cells #[.slice none 0 0] 25 (0,0)):=by rw[M];exact World.alloc_heap_new w _
 have a6:U.heap.size=w.heap.size+1:=by rw[M];simp
 refine(callsIn_wide (n:=0)).1 (callsIn_of_wp_marks Tryz.func120 rfl trivial ?_ rfl);simp only[Tryz.ntmps120,List.size_toArray,List.length_cons,List.length_nil,Nat.reduceAdd,Nat.reduceSub,Array.replicate_succ,Array.replicate_zero,List.push_toArray,List.append_toArray,List.nil_append,List.cons_append];refine(wpIn_wide (n:=0)).2 ?_;obtain⟨i0,hi,b7,b9,c7⟩:=info_parts Tryz.infoInt;go_wp2_with fail
 rw[<-M];clear M;refine(wpIn_wide (n:=0)).1 ?_;have e2:=hid a6;have e3:w.heap.size < U.heap.size:=Oo;clear a6;obtain⟨II,V⟩:∃II:List Int->World->Prop,II=λpre W=>(∃v,Boxed W w.heap.size 25 v/\W.ownsRow w.heap.size 3 1 v pre.length (pre.map (Value.int .i64)))/\Bl w W:=⟨_,rfl⟩
 have a2:∀s X Y,II s X->KT U.heap.size X Y->II s Y:=λs X Y hX hk=>by
  rw[V]at hX ⊢;obtain⟨⟨v,hv,ho⟩,hb⟩:=hX
  exact⟨⟨v,(hk.cel _ _ _ _ hv Dd Dd).trans hv,qA ho λg hg=>by
   obtain⟨cur,hc⟩:=qO ho hg;exact hk.cel g cur _ _ hc Dd Dd⟩,hb.trans (hk.bel.mono Oo)⟩
 refine QM (α:=Int) (β:=Int) (gf:=gf) (lb:=lb) rfl eg (a4.later a5) (λ_=>rfl)
  (λh1 h2=>Below.trans h1 h2) (λl W o o' h1 h2 h3=>(KT.put (B:=w.heap.size) o' Oo h2 h3).bel) (λ_ _ _=>trivial)
  II (λ_ _=>False) a2 (λ_ _ _ h _=>h) (by rw[V];exact⟨⟨_,b0,bG _ _ _ _⟩,a5⟩)
  (λl pre x b a' W=>II pre W/\pre.length < ls.length/\a'={ tmps:=#[.slice none 0 0,.func (.func gf) #[] lb,.pointer (some ⟨w.heap.size,0,none⟩),undef,.slice none 0 0,.int .i64 x,.func (.func gf) #[] lb,.int .i64 x,undef,undef,undef,undef,undef],defers:=[] })
  (λl pre x b a' W o o' h1 h2 h3 h4=>⟨a2 _ _ _ h1.1 (KT.put (B:=U.heap.size) o' h2 h3 h4),h1.2⟩)
  ?assign ?body ?done ?stop
 case assign=>
  rintro l pre x b X Y K c8 hI hk ⟨rfl,a7⟩ ⟨rr,c9⟩ hK;have d0:=a2 _ _ _ hI hk;gi_wp2
  exact hK _ _ (KeepsFrom.refl _ _) (bM _ _) ⟨d0,a7,rfl⟩
 case body=>
  rintro l pre x b a' W c8 ⟨rr,c9⟩ ⟨hI,a7,rfl⟩;rw[V]at hI ⊢;obtain⟨⟨v,hv,I⟩,hB⟩:=hI;have d6:=hv.cell
  gi_wp2_with (first
   |(gi_at_builtin;refine wpListIn_append_own _ rfl _ _ 25 rfl w.heap.size 3 i0 (.int .i64 0) 1 8 Tryz.underlying25 hi b7 b9 c7 rfl Dd _ _ _ rfl (I.alloc _) ⟨W.heap.size,0,none⟩ 1 1 [.int .i64 x] rfl rfl (qH _ _ _) (λu hu=>by simp at hu;subst hu;rfl) (by unfold maxLen;omega) Oo (by have:=hB.size;simp;omega) ?_;intro v' w1 O a3 d7;obtain⟨g',e1,rfl⟩:=ownsRow_succ O;obtain⟨a8,d8,d9,e0,a9⟩:=hv.appended Dd I hB.size (bK _) O a3;have e4:=a8.cell;have e5:=a8.frozen)
   |gi_in)
  exact⟨e0.from _,a9,⟨⟨_,d8,by rw[mA,lA];exact d9⟩,hB.trans a9⟩⟩
 case done=>
  intro D W hD hI hK;rw[V]at hI;obtain⟨⟨v,hv,I⟩,hB⟩:=hI;have d6:=hv.cell;simp only[Exit.inBlock,Exit.then];go_wp2_with fail
  have hp:=KT.put (B:=U.heap.size) (.deferred none) Oo hK rfl;refine⟨Ss,Or.inl ⟨D,_,rfl,run_takeDeferred hK,v,by simp[results,Tryz.results120,go_sem],v,rfl,qA I λg hg=>?_,hB.trans (hp.bel.mono Oo)⟩⟩;obtain⟨cur,hc⟩:=qO I hg;exact hp.cel g cur _ _ hc Dd Dd
 case stop=>
  rintro D c W _ h _;exact h.elim
theorem Xq(w:World)(gf:Nat)(lb:Array Value)(ls:List Int)(hl:ls.length<=1048576)(K:∀args W,(callFunc gf args).run Tryz.prog W=.ok (.enter gf args) W)
 (I:Gives Tryz.prog gf lb (λx:Int=>#[.int .i64 x]) (λ_=>Below w.heap.size) (λ_ _ _=>True) (λpre x b _ _=>b=x/\pre.length < ls.length) ls w):
 Cl 101 #[.func (.func gf) #[] lb] w λe w'=>∃v,e=.returned v/\w'.ownsRow w.heap.size 3 1 v ls.length (ls.map (Value.int .i64))/\Bl w w':=by
 have M:=hid (XB w gf lb ls hl K I);clear I;go_enter Tryz.func101,Tryz.ntmps101
 go_wp2_with (first|(go_at_call 120;refine M.out.mono ?_;rintro e w' ⟨v,rfl,O,hb⟩)|fail)
 go_ret;exact⟨v,rfl,O,hb⟩
theorem VS(M w:World)(v:Value)(ls:List Int)(O:w.ownsRow M.heap.size 3 1 v ls.length (ls.map (Value.int .i64)))(hb:Bl M w)(hl:ls.length<=1048576):
 Cl 102 #[v] w λe w'=>e=.returned (.tuple #[])/\w'.ownsRow M.heap.size 3 1 v ls.length ((ls.mergeSort λx y=>decide (x<=y)).map (Value.int .i64))/\Bl M w':=by
 rcases O.2 with ⟨rfl,V⟩|⟨U,cap,cur,rfl,I,K,r1,r2,r3,r4⟩
 ·have:ls=[]:=List.eq_nil_of_length_eq_zero V;subst this;refine(AnyM.slices_Sort_int_none Tryz.sortA none 0 w).mono ?_;rintro e w' ⟨rfl,rfl⟩;exact⟨rfl,by simpa using O,hb⟩
 ·have hH:Sort.Holds (Value.int .i64) w U 0 ls.toArray:=holds_of_block_i K (by simpa using r4);refine(AnyM.slices_Sort_int Tryz.sortA U 0 cap ls w hH (qP K) Oo).mono ?_;rintro e w' ⟨rfl,nn,os,rfl⟩;exact⟨rfl,ownsRow_sorted_i Ss I K r1 r2 r3,hb.grown (grownBy_sorted_i _) hb.size (λj hj=>by cases hj;exact I)⟩
theorem VT(w:World)(gf:Nat)(lb:Array Value)(ls:List Int)(hl:ls.length<=1048576)(O:∀args W,(callFunc gf args).run Tryz.prog W=.ok (.enter gf args) W)
 (I:Gives Tryz.prog gf lb (λx:Int=>#[.int .i64 x]) (λ_=>Below w.heap.size) (λ_ _ _=>True) (λpre x b _ _=>b=x/\pre.length < ls.length) ls w):
 Cl 61 #[.func (.func gf) #[] lb] w λe w'=>∃v,e=.returned v/\w'.ownsRow w.heap.size 3 1 v ls.length ((ls.mergeSort λx y=>decide (x<=y)).map (Value.int .i64))/\Bl w w':=by
 have U:=hid (Xq w gf lb ls hl O I);have V:Hid (∀W v,W.ownsRow w.heap.size 3 1 v ls.length (ls.map (Value.int .i64))->Bl w W->Cl 102 #[v] W λe w'=>e=.returned (.tuple #[])/\w'.ownsRow w.heap.size 3 1 v ls.length ((ls.mergeSort λx y=>decide (x<=y)).map (Value.int .i64))/\Bl w w'):=hid λW v h1 h2=>VS w W v ls h1 h2 hl;clear I;go_enter Tryz.func61,Tryz.ntmps61
 go_wp2_with (first|(go_at_call 101;refine U.out.mono ?_;rintro e w' ⟨v,rfl,ho,hb⟩)|(go_at_call 102;refine(V.out _ _ ho hb).mono ?_;rintro e a2 ⟨rfl,K,M⟩)|fail)
 go_ret;exact⟨v,rfl,K,M⟩
def MX(W:World)(k:Nat)(m:Nat->Bool):Prop:=W.heap[k]?=some (.cells (ZO m) 112 (0,0))
section
variable {W W':World} {k:Nat} {m:Nat->Bool}
theorem MX.below(h:MX W k m)(hb:Bl W W'):MX W' k m:=(hb.block _ (qP h)).trans h
theorem MX.cell(h:MX W k m)(hv:v < 6):W.cell? ⟨k,v,none⟩=some (.bool (m v)):=by rw[cell_of_row _ _ _ _ _ _ h];exact qDS m hv
theorem MX.free(h:MX W k m)(j:Nat):W.frozen? ⟨k,j,none⟩=false:=by unfold World.frozen?;rw[show W.heap[k]?=_ from h];simp
theorem MX.set(h:MX W k m)(hv:v < 6):MX (W.setCell ⟨k,v,none⟩ (.bool true)) k (λi=>m i||decide (i=v)):=by
 unfold MX;rw[bJ _ _ _ _ _ _ h];obtain rfl|rfl|rfl|rfl|rfl|rfl:v=0∨v=1∨v=2∨v=3∨v=4∨v=5:=Oo;all_goals simp[ZO]
theorem MX.congr{K:Nat->Bool}(h:MX W k m)(I:∀i,i < 6->K i=m i):MX W k K:=by
 have:ZO K=ZO m:=by unfold ZO;rw[I 0 Oo,I 1 Oo,I 2 Oo,I 3 Oo,I 4 Oo,I 5 Oo]
 unfold MX;rw[this];exact h
end
theorem qDK{o:List Int}{vr:List Int}(hv:vr.Pairwise (·< ·)):decide (o.mergeSort (λx y=>decide (x<=y))=vr)=true↔vr.Perm o:=by
 rw[dE];constructor
 ·intro h;rw[<-h];exact List.mergeSort_perm _ _
 ·intro h;have I:vr.mergeSort (λx y=>decide (x<=y))=vr:=List.mergeSort_of_pairwise (hv.imp λ{a b} h=>decide_eq_true Oo);rw[<-I];exact(mergeSort_of_perm_i h.symm)
theorem qCD(tl:List TbV)(o:List Int):decide (o.mergeSort (λx y=>decide (x<=y))=vrJ tl)=xu tl o:=by
 rw[Bool.eq_iff_iff,qDK (show(vrJ tl).Pairwise (·< ·) from Ut _ _),vh]
theorem XC(w:World)(vt vo:Value)(tl:List TbV)(o:List Int)(h:ITs w vt tl)(ho:IS w vo o)(hl:tl.length<=1000)(d6:o.length<=1048576)(d7:∀t∈tl,zK t=true):
 Cl 33 #[vt,vo] w λe w'=>e=.returned (.bool (xu tl o))/\Bl w w':=by
 obtain⟨at',ct,rfl,hc⟩:=h
 have a3:Hid (∀j,j < tl.length->qL (tl.getD j qC).vs=true):=hid λj hj=>by
  have h1:=d7 (tl.getD j qC) (by rw[gD,bC hj];exact gM _);exact(jT h1).1
 have HC:Hid (∀W,Bl w W->∀j,j < tl.length->∃b oo,at'=some ⟨b,oo,none⟩/\TabAt W b (oo+j*3) (tl.getD j qC)):=hid λW hW j hj=>by
  rcases hc with h0|⟨b,oo,rfl,h⟩
  ·omega
  ·exact⟨b,oo,rfl,(h j hj).below hW⟩
 have HH:Hid (∀j,j < tl.length->∀i,qy (tl.take (j+1)) i=(qy (tl.take j) i||decide ((i:Int)∈(tl.getD j qC).vs))):=hid λj hj i=>Ym hj i;have a5:Hid (qy (tl.take tl.length)=qy tl):=hid (by rw[tL]);have g4:Hid (∀i,qy (tl.take 0) i=false):=hid λi=>rfl;have HO:=hid ho;obtain⟨ao,co,rfl,-⟩:=ho
 have KV:Hid (∀W,Bl w W->Cl 61 #[.func (.func 103) #[] #[.pointer (some ⟨W.heap.size,0,none⟩)]] (W.alloc (.cells #[.slice ao o.length co] 25)) λe w'=>∃v,e=.returned v/\w'.ownsRow (W.alloc (.cells #[.slice ao o.length co] 25)).heap.size 3 1 v o.length ((o.mergeSort λx y=>decide (x<=y)).map (Value.int .i64))/\Below (W.alloc (.cells #[.slice ao o.length co] 25)).heap.size (W.alloc (.cells #[.slice ao o.length co] 25)) w'):=hid λW hW=>
  VT _ 103 #[.pointer (some ⟨W.heap.size,0,none⟩)] o d6 (enters_of Tryz.func103 (by kernel_rfl) rfl) (VR _ W.heap.size _ o (World.alloc_heap_new W _) ((HO.out.below hW).below (qE (bM _ _) _)) Oo)
 have KL:Hid (∀W,Cl 63 #[.agg (ZO (qy tl))] W λe w'=>∃v,e=.returned v/\w'.ownsRow W.heap.size 3 1 v (vrJ tl).length ((vrJ tl).map (Value.int .i64))/\Bl W w'):=hid λW=>qAz W (qy tl)
 have KQ:Hid (∀W v1 v2,IS W v1 (o.mergeSort λx y=>decide (x<=y))->IS W v2 (vrJ tl)->Cl 60 #[v1,v2] W λe w'=>e=.returned (.bool (xu tl o))/\∃q,w'=W.drewN q):=hid λW v1 v2 h1 h2=>by
  have:=QE W v1 v2 _ _ h1 h2 (by rw[List.length_mergeSort];omega) (bQ (jk tl) Dd);rw[qCD]at this;exact this
 obtain⟨n,hn⟩:∃n,n=tl.length:=⟨_,rfl⟩;rw[<-hn]at hl HC a3 HH a5 ⊢;clear hn hc d7 HO;obtain⟨no,a6⟩:∃no,no=o.length:=⟨_,rfl⟩;rw[<-a6]at KV d6 ⊢;have g5:=hid a6;clear a6;obtain⟨d8,a4⟩:∃d8,d8=xu tl o:=⟨_,rfl⟩;rw[<-a4]at KQ ⊢;clear a4;obtain⟨W1,a7⟩:∃W1,W1=w.alloc (.cells #[.bool false,.bool false,.bool false,.bool false,.bool false,.bool false] 112):=⟨_,rfl⟩;have d9:Hid (Bl w W1/\MX W1 w.heap.size (qy (tl.take 0))):=hid (by rw[a7];exact⟨qE (bM _ _) _,World.alloc_heap_new w _⟩);go_enter Tryz.func33,Tryz.ntmps33
 go_wp2_with fail
 rw[<-a7];clear a7;go_loopw [12] (λt wr=>∃(j:Nat),j<=n/\t=.int .i64 j/\Hid (Bl w wr/\MX wr w.heap.size (qy (tl.take j)))) (λt _=>n - (intOf t).toNat)
 case atStart=>exact⟨0,nZ _,rfl,d9⟩
 case round=>
  clear d9 g4;obtain⟨j,h9,rfl,M⟩:=hrel;by_cases a8:j < n
  ·have i1:(j:Int) < (n:Int):=Oo;obtain⟨b,oo,ea,v0,v1,v2,e3,e4,e5,hI⟩:=HC.out w (bM _ _) j a8;subst ea;have c0:=uE M.out.1 e3;have c1:=uE M.out.1 e4;have c2:=uE M.out.1 e5;clear e3 e4 e5;have O:=a3.out j a8;have g6:=hid (HH.out j a8);obtain⟨W3,U⟩:∃W3,W3=wr.alloc (.cells #[v0,v1,v2] 34):=⟨_,rfl⟩;have a9:Bl wr W3:=by rw[U];exact(bM _ _).alloc (bK _) _
   have b0:Hid (TX W3 wr.heap.size v0 v1 v2):=hid (by rw[U];exact TX.made _ _ _ _);have e6:=hid (bt M.out.1 a9);have b7:=hid (M.out.2.below a9);have i0:Hid (w.heap.size < wr.heap.size):=hid (qP M.out.2);have g7:=U8 O
   have e7:Hid (∀i,i < (tl.getD j qC).vs.length->∃v:Nat,(tl.getD j qC).vs.getD i 0=(v:Int)/\v < 6):=hid λi hi=>by
    have:=ZQ O i hi;exact⟨((tl.getD j qC).vs.getD i 0).toNat,Oo,Oo⟩
   have e8:=hI.vs;obtain⟨a0,k0,e0,-⟩:=hI.vs;obtain⟨a1,k1,e1,-⟩:=hI.rows;obtain⟨a2,k2,e2,-⟩:=hI.ws;subst e0 e1 e2;have e9:Hid (∀i,i < (tl.getD j qC).vs.length->(tl.getD j qC).vs.take (i+1)=(tl.getD j qC).vs.take i++[(tl.getD j qC).vs.getD i 0]):=hid λi hi=>zA hi;have f4:Hid ((tl.getD j qC).vs.take (tl.getD j qC).vs.length=(tl.getD j qC).vs):=hid (tL);generalize tl.getD j qC=tb at *
   have b9:Hid (∀W,Bl w W->∀i,i < tb.vs.length->∃b o,a0=some ⟨b,o,none⟩/\W.cell? ⟨b,o+i,none⟩=some (.int .i64 (tb.vs.getD i 0))):=hid λW hW i hi=>by
    obtain⟨a,c,e,hc⟩:=e8.below hW;cases e
    rcases hc with h0|⟨b,o,rfl,h⟩
    ·omega
    ·exact⟨b,o,rfl,h i hi⟩
   generalize tb.rows.length=nr at *;generalize tb.ws.length=n2 at *;clear hI e8 O a9 HC a3 M;obtain⟨nv,f7⟩:∃nv,nv=tb.vs.length:=⟨_,rfl⟩;rw[<-f7]at g7 e7 e9 f4 b9 U b0 c0;clear f7;have d0:=b0.out.c0;go_upto_region 5 with fail
   rw[<-U];clear U c0 c1 c2;have i3:w.heap.size < W3.heap.size:=qP b7.out;have K:Hid (MX W3 w.heap.size (λq=>qy (tl.take j) q||decide ((q:Int)∈tb.vs.take 0))):=hid (b7.out.congr λi _=>Ss);go_wp2_with fail
   go_loopw [19] (λt f8=>∃(i:Nat),i<=nv/\t=.int .i64 i/\Hid (Bl w f8/\MX f8 w.heap.size (λq=>qy (tl.take j) q||decide ((q:Int)∈tb.vs.take i)))) (λt _=>nv - (intOf t).toNat)
   case atStart=>exact⟨0,nZ _,rfl,hid ⟨e6.out,K.out⟩⟩
   case round=>
    obtain⟨i,i4,rfl,I⟩:=hrel;by_cases V:i < nv
    ·have i2:(i:Int) < (nv:Int):=Oo;obtain⟨b2,o2,g8,e1⟩:=b9.out _ I.out.1 i V;subst g8;obtain⟨v,ev,f9⟩:=e7.out i V;have c7:=hid (e9.out i V);rw[ev]at c7 e1;have m1:((v:Nat):Int) < 6:=Oo;have m0:¬((v:Nat):Int) < 0:=Oo;have m2:(0:Int)<=(v:Int):=Oo;have q1:=I.out.2.cell f9;have q2:=I.out.2.free v
     have HN:Hid (∀W:World,W=(wr:World)->Bl w (W.setCell ⟨w.heap.size,v,none⟩ (.bool true))/\MX (W.setCell ⟨w.heap.size,v,none⟩ (.bool true)) w.heap.size (λq=>qy (tl.take j) q||decide ((q:Int)∈tb.vs.take (i+1)))):=hid λW hW=>by
      subst hW;refine⟨I.out.1.setCell (by show _<=w.heap.size;omega) _,(I.out.2.set f9).congr λq _=>?_⟩;rw[c7.out];simp only[List.mem_append,List.mem_singleton,Bool.decide_or,Bool.or_assoc];congr 2;simp only[decide_eq_decide];omega
     clear I c7 ev;go_wp2_with fail
     go_roundw
     case rel=>exact⟨i+1,Oo,Gg,hid (HN.out wr rfl)⟩
     case measure=>simp[intOf];omega
    ·obtain rfl:i=nv:=Oo;have i2:¬((i:Int) < (i:Int)):=Oo;have HN:Hid (Bl w wr/\MX wr w.heap.size (qy (tl.take (j+1)))):=hid ⟨I.out.1,I.out.2.congr λq _=>by rw[f4.out];exact g6.out q⟩;clear I K e6 b7 b0 b9;go_wp2_with fail
     go_roundw
     case rel=>exact⟨j+1,Oo,Gg,HN⟩
     case measure=>simp[intOf];omega
  ·obtain rfl:j=n:=Oo;have i1:¬((j:Int) < (j:Int)):=Oo;rw[a5.out]at M;have g9:=hid M.out.2;have HB:=hid M.out.1;clear M HH a5 a3 HC
   have c8:Hid (∀W,Bl wr W->W.cell? ⟨w.heap.size,0,none⟩=some (.bool (qy tl 0))/\W.cell? ⟨w.heap.size,1,none⟩=some (.bool (qy tl 1))/\W.cell? ⟨w.heap.size,2,none⟩=some (.bool (qy tl 2))/\W.cell? ⟨w.heap.size,3,none⟩=some (.bool (qy tl 3))/\W.cell? ⟨w.heap.size,4,none⟩=some (.bool (qy tl 4))/\W.cell? ⟨w.heap.size,5,none⟩=some (.bool (qy tl 5))):=hid λW hW=>by
    have h:=g9.out.below hW;exact⟨h.cell (v:=0) Oo,h.cell (v:=1) Oo,h.cell (v:=2) Oo,h.cell (v:=3) Oo,h.cell (v:=4) Oo,h.cell (v:=5) Oo⟩
   have h3:Hid (∀W,Cl 63 #[.agg #[.bool (qy tl 0),.bool (qy tl 1),.bool (qy tl 2),.bool (qy tl 3),.bool (qy tl 4),.bool (qy tl 5)]] W λe w'=>∃v,e=.returned v/\w'.ownsRow W.heap.size 3 1 v (vrJ tl).length ((vrJ tl).map (Value.int .i64))/\Bl W w'):=KL;have c9:Bl wr wr.drew:=(bM _ _).drew;have h4:=hid (KV.out wr.drew (bt HB.out c9));obtain⟨s0,s1,s2,s3,s4,s5⟩:=c8.out wr.drew c9;have b1:Bl wr (wr.drew.alloc (.cells #[.slice ao no co] 25)):=qE c9 _;obtain⟨t0,t1,t2,t3,t4,t5⟩:=c8.out (wr.alloc (.cells #[.slice ao no co] 25)) (qE (bM _ _) _);clear KL KV;generalize qy tl 0=m0 at *;generalize qy tl 1=m1 at *;generalize qy tl 2=m2 at *;generalize qy tl 3=m3 at *;generalize qy tl 4=m4 at *;generalize qy tl 5=m5 at *;go_upto_region 11 with fail
   go_region_law (first
    |(go_simp;go_at_call 62;refine(VQ _ ao no co).mono ?_;rintro e w2 ⟨rfl,rfl⟩)
    |(go_simp;go_at_call 61;refine h4.out.mono ?_;rintro e w3 ⟨v3,rfl,h5,h6⟩;have b3:=bt b1 h6;obtain⟨r0,r1,r2,r3,r4,r5⟩:=c8.out w3 b3)
    |(go_simp;go_at_call 63;refine(h3.out w3).mono ?_;rintro e w4 ⟨v4,rfl,h7,g2⟩;have h8:IS w4 v3 (o.mergeSort λx y=>decide (x<=y)):=qK (by rw[List.length_mergeSort,<-g5.out];exact qB h5 g2);have b4:=bt b3 g2)
    |(go_simp;go_at_call 60;refine(KQ.out w4 v3 v4 h8 (qK h7)).mono ?_;rintro e w5 ⟨rfl,q5,rfl⟩)
    |fail)
   all_goals go_wp2_with fail
   all_goals go_ret
   all_goals exact⟨rfl,below_drewN (bt HB.out b4) _⟩
end Go.Proofs.YtkaipapdlnojiaaGreat
