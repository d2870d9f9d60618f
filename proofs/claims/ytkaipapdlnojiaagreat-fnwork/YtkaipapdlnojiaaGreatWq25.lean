import Derived.BigRegion
import Derived.Deep.CutRange
import Derived.Deep.RegionHeldLaw
import Derived.Laws.OwnMore
import Derived.Lib.Split
import Derived.Test.YtkaipapdlnojiaaGreatProg
import Derived.Test.YtkaipapdlnojiaaGreatWq23
set_option maxHeartbeats 40000000
set_option maxRecDepth 1000000
namespace Go.Proofs.YtkaipapdlnojiaaGreat
open Go.RowKit
variable {p sd:Int}{xs ys zs:List Value}{B I N c cap g k m n n1 n2 o:Nat}{a:Option Addr}{v v' v1 v2:Value}{W W' b w w':World}
theorem zJ(w:World)(v:Value)(t:TypeId):∀j u,[v][j]?=some u->(w.alloc (.cells #[v] t)).cell? ((⟨w.heap.size,0,none⟩:Addr).add j)=some u:=by
 intro j u I;match j,I with
 |0,I=>simp at I;subst I;simp[Addr.add]
structure RdrAt(W:World)(g:Nat)(a:Option Addr)(n cap:Nat)(p sd:Int):Prop where
 c0:W.cell? ⟨g,0,none⟩=some (.slice a n cap)
 c1:W.cell? ⟨g,1,none⟩=some (.int .i64 p)
 c2:W.cell? ⟨g,2,none⟩=some (.int .i64 sd)
 f1:W.frozen? ⟨g,1,none⟩=false
 f2:W.frozen? ⟨g,2,none⟩=false
 bytes:∀j,j < n->∃b o x,a=some ⟨b,o,none⟩/\b≠g/\W.cell? ⟨b,o+j,none⟩=some (.int .u8 x)/\0<=x/\x < 256
 seed:0<=sd/\sd < 2147483648
structure Kc(g:Nat)(w w':World):Prop where
 os:w'.os=w.os
 tape:w'.tape=w.tape
 output:w'.output=w.output
 size:w.heap.size<=w'.heap.size
 block:∀b,b < w.heap.size->b≠g->w'.heap[b]?=w.heap[b]?
theorem Kc.refl(g:Nat)(w:World):Kc g w w:=⟨rfl,rfl,rfl,bK _,λ_ _ _=>rfl⟩
theorem Kc.trans{a c:World}(h:Kc g a b)(k:Kc g b c):Kc g a c:=
 ⟨k.os.trans h.os,k.tape.trans h.tape,k.output.trans h.output,bQ h.size k.size,λx I K=>(k.block x (bV I h.size) K).trans (h.block x I K)⟩
theorem Kc.set(h:Kc g w w')(o:Nat)(v:Value):Kc g w (w'.setCell ⟨g,o,none⟩ v):=
 h.trans ⟨rfl,rfl,rfl,by simp[World.setCell],λb _ I=>bE _ _ _ _ I⟩
theorem Kc.drewN(h:Kc g w w')(n:Nat):Kc g w (w'.drewN n):=by
 have:=below_drewN (B:=w'.heap.size) (bM _ w') n;exact h.trans ⟨this.os,this.tape,this.output,this.size,λb hb _=>this.block b hb⟩
theorem RdrAt.set1(h:RdrAt W g a n cap p sd)(q:Int):RdrAt (W.setCell ⟨g,1,none⟩ (.int .i64 q)) g a n cap q sd where
 c0:=(bD _ _ _ _ Ss).trans h.c0
 c1:=bI _ _ _ h.c1
 c2:=(bD _ _ _ _ Ss).trans h.c2
 f1:=by rw[fS];exact h.f1
 f2:=by rw[fS];exact h.f2
 bytes j hj:=by
  obtain⟨b,o,x,e,I,K,M⟩:=h.bytes j hj;exact⟨b,o,x,e,I,(bF (w:=W) (a:=⟨b,o+j,none⟩) (bE _ _ _ _ I)).trans K,M⟩
 seed:=h.seed
theorem RdrAt.set2(h:RdrAt W g a n cap p sd)(q:Int)(hq:0<=q/\q < 2147483648):RdrAt (W.setCell ⟨g,2,none⟩ (.int .i64 q)) g a n cap p q where
 c0:=(bD _ _ _ _ Ss).trans h.c0
 c1:=(bD _ _ _ _ Ss).trans h.c1
 c2:=bI _ _ _ h.c2
 f1:=by rw[fS];exact h.f1
 f2:=by rw[fS];exact h.f2
 bytes j hj:=by
  obtain⟨b,o,x,e,I,K,M⟩:=h.bytes j hj;exact⟨b,o,x,e,I,(bF (w:=W) (a:=⟨b,o+j,none⟩) (bE _ _ _ _ I)).trans K,M⟩
 seed:=hq
theorem RdrAt.drewN(h:RdrAt W g a n cap p sd)(k:Nat):RdrAt (W.drewN k) g a n cap p sd:=⟨h.c0,h.c1,h.c2,h.f1,h.f2,h.bytes,h.seed⟩
theorem qAh(W:World)(g:Nat)(a:Option Addr)(n cap k:Nat)(sd:Int)(h:RdrAt W g a n cap k sd)(hn:n<=1048576)(hk:k<=1000000000):
 Cl 69 #[.pointer (some ⟨g,0,none⟩)] W λe w'=>∃z V,e=.returned (.int .i64 z)/\0<=z/\z < 256/\RdrAt w' g a n cap ((k:Int)+1) V/\Kc g W w':=by
 have HC:=hid h;obtain⟨c0,c1,c2,f1,f2,-,hs,a5⟩:=h;go_enter Tryz.func69,Tryz.ntmps69
 go_upto_region 2 with fail
 have M:=HC.out.set1 ((k:Int)+1);have O:=(Kc.refl g W).set 1 (.int .i64 ((k:Int)+1));generalize W.setCell ⟨g,1,none⟩ (.int .i64 ((k:Int)+1))=W1 at *;clear c0 c1 c2 f1 f2;have I:=hid M;have K:=hid O;obtain⟨c0,c1,c2,f1,f2,U,-⟩:=M;have a2:=hid U
 clear U O;by_cases h1:150+40*(n:Int) < (k:Int)+1
 ·go_quiet (fail)
  go_wp2;go_ret;exact⟨0,sd,rfl,Oo,Oo,I.out.drewN _,K.out.drewN _⟩
 ·go_quiet (fail)
  go_wp2;by_cases h2:(n:Int) < (k:Int)+1
  ·go_quiet (fail)
   go_wp2;go_ret;refine⟨_,(sd*1103515245+12345) % 2147483648,rfl,Oo,Oo,?_,?_⟩
   ·exact(I.out.drewN _).set2 ((sd*1103515245+12345) % 2147483648) ⟨Oo,Oo⟩
   ·exact(K.out.drewN _).set _ _
  ·obtain⟨b,o,x,rfl,a3,c3,hx,a6⟩:=a2.out k Oo;have i1:(k:Int) < (n:Int):=Oo;have i2:(k:Int)+1 - 1=(k:Int):=Oo;have a4:g≠b:=λe=>a3 e.symm;go_quiet (fail)
   go_wp2_with fail
   go_region
   all_goals
    go_wp2_with fail
    go_quiet (fail)
    go_wp2
    go_ret
    refine⟨_,(sd*31+x+7) % 2147483648,rfl,Oo,Oo,?_,?_⟩
    ·exact((I.out.drewN _).set2 ((sd*31+x+7) % 2147483648) ⟨Oo,Oo⟩).drewN _
    ·exact((K.out.drewN _).set _ _).drewN _
theorem Ju(W:World)(g:Nat)(a:Option Addr)(n cap k:Nat)(sd:Int)(h:RdrAt W g a n cap k sd)(K:n<=1048576)(M:k<=1000000000):
 Cl 69 #[.pointer (some ⟨g,0,none⟩)] W λe w'=>∃(z:Nat) (I:Int),e=.returned (.int .i64 z)/\z < 256/\RdrAt w' g a n cap (k+1:Nat) I/\Kc g W w':=
 (qAh W g a n cap k sd h K M).mono (by
  rintro e w' ⟨z,I,rfl,O,h1,U,V⟩;exact⟨z.toNat,I,by rw[Int.toNat_of_nonneg O],Oo,by rw[show((k+1:Nat):Int)=(k:Int)+1 by omega];exact U,V⟩)
def Rdr(W:World)(g:Nat)(a:Option Addr)(n cap k:Nat):Prop:=∃(k':Nat) (sd:Int),k'<=k/\RdrAt W g a n cap k' sd
theorem Rdr.mono{l:Nat}(h:Rdr W g a n cap k)(hl:k<=l):Rdr W g a n cap l:=by
 obtain⟨I,sd,K,M⟩:=h;exact⟨I,sd,bQ K hl,M⟩
theorem yA(W:World)(g:Nat)(a:Option Addr)(n cap k m:Nat)(h:Rdr W g a n cap k)(V:n<=1048576)(hk:k<=1000000000)(hm:m<=256):
 Cl 35 #[.pointer (some ⟨g,0,none⟩),.int .i64 m] W λe w'=>∃z:Nat,e=.returned (.int .i64 z)/\(z < m∨z=0)/\Rdr w' g a n cap (k+1)/\Kc g W w':=by
 obtain⟨K,sd,a2,I⟩:=h;by_cases h1:m<=1
 ·have i1:(m:Int)<=1:=Oo;have HC:=hid I;clear I;go_enter Tryz.func35,Tryz.ntmps35
  go_wp2;go_ret;exact⟨0,rfl,Or.inr rfl,⟨K,sd,Oo,HC.out⟩,Kc.refl _ _⟩
 ·have i1:¬((m:Int)<=1):=Oo;have i2:(m:Int)<=256:=Oo;have KB:=hid (Ju W g a n cap K sd I V Oo);clear I;go_enter Tryz.func35,Tryz.ntmps35
  go_wp2_with (first|(go_at_call 69;refine KB.out.mono ?_;rintro e w1 ⟨z,M,rfl,hz,O,U⟩))
  go_ret;refine⟨z % m,?_,Or.inl (Nat.mod_lt _ Oo),⟨K+1,M,Oo,O⟩,U⟩;first|rfl|(rw[show((z % m:Nat):Int)=(z:Int) % (m:Int)by omega])
def BoolsAt(w:World)(g n:Nat)(s:Nat->Bool):Prop:=w.rowIs g 4 n (λi=>.bool (s i))
theorem BoolsAt.kept{s:Nat->Bool}(h:BoolsAt w g n s)(K:Kc c w w')(I:g≠c):BoolsAt w' g n s:=h.of_block (K.block g h.lt I)
theorem RdrAt.other(h:RdrAt W g a n cap p sd)(I:W'.heap[g]?=W.heap[g]?)(hb:∀b o,a=some ⟨b,o,none⟩->0 < n->W'.heap[b]?=W.heap[b]?):RdrAt W' g a n cap p sd where
 c0:=(bF (w:=W) (a:=⟨g,0,none⟩) I).trans h.c0
 c1:=(bF (w:=W) (a:=⟨g,1,none⟩) I).trans h.c1
 c2:=(bF (w:=W) (a:=⟨g,2,none⟩) I).trans h.c2
 f1:=(World.frozen?_of_block (w:=W) (a:=⟨g,1,none⟩) I).trans h.f1
 f2:=(World.frozen?_of_block (w:=W) (a:=⟨g,2,none⟩) I).trans h.f2
 bytes j hj:=by
  obtain⟨b,o,x,e,K,M,O⟩:=h.bytes j hj;exact⟨b,o,x,e,K,(bF (w:=W) (a:=⟨b,o+j,none⟩) (hb b o e Oo)).trans M,O⟩
 seed:=h.seed
theorem RdrAt.byteLt(h:RdrAt W g a n cap p sd){b:Nat}(e:a=some ⟨b,o,none⟩)(K:0 < n):b < W.heap.size:=by
 obtain⟨O,U,x,I,_,M,_⟩:=h.bytes 0 K;rw[e]at I;simp only[Option.some.injEq,Addr.mk.injEq]at I;obtain⟨rfl,rfl,_⟩:=I;exact bL W _ M
theorem Rdr.below(h:Rdr W g a n cap k)(hb:Bl W W'):Rdr W' g a n cap k:=by
 obtain⟨K,sd,M,I⟩:=h;exact⟨K,sd,M,I.other (hb.block g (bL W _ I.c0)) (λb o e O=>hb.block b (I.byteLt e O))⟩
theorem Kc.new(h:Kc g w w')(K:w.heap.size<=c)(o:Nat)(v:Value):Kc g w (w'.setCell ⟨c,o,none⟩ v):=
 ⟨h.os,h.tape,h.output,by simpa[World.setCell]using h.size,λb hb I=>(bE _ _ _ _ (by show b≠c;omega)).trans (h.block b hb I)⟩
theorem Kc.below{a c:World}(h:Kc g a b)(k:Below a.heap.size b c):Kc g a c:=
 ⟨k.os.trans h.os,k.tape.trans h.tape,k.output.trans h.output,bQ h.size k.size,λx I K=>(k.block x I).trans (h.block x I K)⟩
theorem Rdr.above(h:Rdr W g a n cap k)(hb:Below N W W')(K:g < N)(I:∀b o,a=some ⟨b,o,none⟩->0 < n->b < N):Rdr W' g a n cap k:=by
 obtain⟨M,sd,O,U⟩:=h;exact⟨M,sd,O,U.other (hb.block g K) (λb o e V=>hb.block b (I b o e V))⟩
theorem Yh(w:World)(I:N<=c)(o:Nat)(v:Value):Below N w (w.setCell ⟨c,o,none⟩ v):=(bM _ _).setCell I v
theorem VH(W:World)(g:Nat)(a:Option Addr)(n cap k q most:Nat)(K:Rdr W g a n cap k)(hn:n<=1048576)(hk:k<=1000000)(hq:1<=q)(e8:q<=8)(hm:most<=20):
 Cl 36 #[.pointer (some ⟨g,0,none⟩),.int .i64 q,.int .i64 most] W λe w'=>∃(v:Value) (s:Nat->Bool),e=.returned v/\w'.ownsRow W.heap.size 3 1 v (plc s q).length ((plc s q).map (Value.int .i64))/\(∃j,j < q/\s j=true)/\Rdr w' g a n cap (k+30)/\Kc g W w':=by
 obtain⟨i0,hi,d9,e0,e2⟩:=info_parts Tryz.infoInt;have e9:=run_make_row' (P:=Tryz.prog) 127 4 (.bool false) 1 Tryz.underlying127 (by kernel_rfl) rfl .i64 .i64 q Oo Oo
 have a2:g < W.heap.size:=by
  obtain⟨k',sd,_,h2⟩:=K;exact bL W _ h2.c0
 have a3:Hid (∀b o,a=some ⟨b,o,none⟩->0 < n->b < W.heap.size):=hid (λb o e e3=>by
  obtain⟨k',sd,_,h2⟩:=K;exact h2.byteLt e e3)
 have b0:BoolsAt (W.alloc (.cells (madeCells #[.bool false] q) 4)) W.heap.size q (λ_=>false):=World.rowIs_made W (.bool false) q 4;have a4:Bl W (W.alloc (.cells (madeCells #[.bool false] q) 4)):=(bM _ _).alloc (bK _) _;have b7:=K.below a4;have b9:=(Kc.refl g W).below a4;have f4:W.heap.size < (W.alloc (.cells (madeCells #[.bool false] q) 4)).heap.size:=Ss;clear a4 K;go_enter Tryz.func36,Tryz.ntmps36
 go_upto_region 2 with fail
 generalize W.alloc (.cells (madeCells #[.bool false] q) 4)=W0 at *;have KP:Hid (∀(w:World) (k m:Nat),Rdr w g a n cap k->k<=1000000000->m<=256->Cl 35 #[.pointer (some ⟨g,0,none⟩),.int .i64 m] w λe w'=>∃z:Nat,e=.returned (.int .i64 z)/\(z < m∨z=0)/\Rdr w' g a n cap (k+1)/\Kc g w w'):=hid (λw k m h h1 h2=>yA w g a n cap k m h hn h1 h2);have c7:=hid b0;have c8:=hid b7;have c9:=hid b9;clear b0 b7 b9;go_upto_region 3 with (first|(go_at_call 35;refine(KP.out _ k most c8.out Oo Oo).mono ?_;rintro e w1 ⟨z,rfl,hz,d0,a5⟩))
 have e6:z<=20:=Oo;have HX:Hid (Rdr w1 g a n cap (k+1+0)/\Kc g W w1/\BoolsAt w1 W.heap.size q (λ_=>false)/\(0 < 0->∃j,j < q/\(λ_=>false) j=true)):=hid ⟨d0,c9.out.trans a5,c7.out.kept a5 Oo,λh=>Oo⟩;clear d0 a5 c7 c8 c9 hz;generalize w1=W1 at *;go_wp2;go_loopw [9] (λt wr=>∃(i:Nat) (s:Nat->Bool),i<=1+z/\t=.int .i64 i/\Hid (Rdr wr g a n cap (k+1+i)/\Kc g W wr/\BoolsAt wr W.heap.size q s/\(0 < i->∃j,j < q/\s j=true))) (λt _=>1+z - (intOf t).toNat)
 case atStart=>exact⟨0,_,nZ _,rfl,HX⟩
 case round=>
  clear HX;obtain⟨i,s,f7,rfl,hH⟩:=hrel;by_cases f8:i < 1+z
  ·have i1:(i:Int) < 1+(z:Int):=Oo;obtain⟨K,V,hB,-⟩:=hH.out;have HK:=hid V;have HB:=hid hB;have KQ:=hid (KP.out wr (k+1+i) q K Oo Oo);clear K V hB hH;go_wp2_with fail
   refine KQ.out.mono ?_;rintro e w2 ⟨y,rfl,hy,e4,d6⟩;have a6:=HB.out.kept d6 Oo;have d7:y < q:=Oo;have j1:(y:Int) < (q:Int):=Oo;have b1:w2.cell? ⟨W.heap.size,y,none⟩=some (.bool (s y)):=World.rowIs.cell a6 d7;have b2:=World.rowIs.frozen a6 y;go_wp2;go_roundw
   case rel=>
    refine⟨i+1,λj=>if j=y then true else s j,Oo,Gg,hid ⟨e4.above (Yh _ (bK _) _ _) a2 a3.out,(HK.out.trans d6).new (bK _) _ _,(World.rowIs.set a6 y (.bool true)).congr (λj _=>?_),λ_=>⟨y,d7,if_pos rfl⟩⟩⟩;by_cases e:j=y
    ·rw[if_pos e];show _=Value.bool (if j=y then true else s j);rw[if_pos e]
    ·rw[if_neg e];show _=Value.bool (if j=y then true else s j);rw[if_neg e]
   case measure=>simp[intOf];omega
  ·obtain rfl:i=1+z:=Oo;have i1:¬(((1+z:Nat):Int) < 1+(z:Int)):=Oo;obtain⟨K,V,hB,hE⟩:=hH.out;have HC:=hid K;have HK:=hid V;have HB:=hid hB;have HE:=hid (hE Oo);have a7:=V.size;clear K V hB hE hH;go_wp2;have a8:Below W.heap.size wr (wr.alloc (.cells #[] 3)):=((bM _ _).alloc (bK _) _).mono a7;have HX:Hid ((wr.alloc (.cells #[] 3)).ownsRow (W.heap.size+1) 3 1 (.slice (some ⟨wr.heap.size,0,none⟩) 0 0) (plc s 0).length ((plc s 0).map (Value.int .i64))/\Rdr (wr.alloc (.cells #[] 3)) g a n cap (k+1+(1+z))/\Kc g W (wr.alloc (.cells #[] 3))/\BoolsAt (wr.alloc (.cells #[] 3)) W.heap.size q s):=hid ⟨oM wr #[] 0 HB.out.lt Dd rfl,HC.out.above a8 a2 a3.out,HK.out.below a8,HB.out.alloc _⟩;go_loopw [10,32] (λv t wr=>∃(j:Nat) (vs:Value),j<=q/\t=.int .i64 j/\vs=v/\Hid (wr.ownsRow (W.heap.size+1) 3 1 vs (plc s j).length ((plc s j).map (Value.int .i64))/\Rdr wr g a n cap (k+1+(1+z))/\Kc g W wr/\BoolsAt wr W.heap.size q s)) (λ_ t _=>q - (intOf t).toNat)
   case atStart=>exact⟨0,_,nZ _,rfl,rfl,HX⟩
   case round=>
    clear HX HC HK HB a8 a7;obtain⟨j,vs,hj,rfl,rfl,hH⟩:=hrel;obtain⟨I,K,V,hB⟩:=hH.out;have HC:=hid K;have HK:=hid V;have HB:=hid hB;have a7:=V.size;have f9:=hB.lt;clear K V hH;by_cases e5:j < q
    ·have i2:(j:Int) < (q:Int):=Oo;have b1:wr.cell? ⟨W.heap.size,j,none⟩=some (.bool (s j)):=World.rowIs.cell hB e5;have e7:=xK s j;clear hB;cases hsj:s j
     ·rw[hsj]at b1;have e1:=hid (zy s j hsj);go_wp2;go_roundw
      case rel=>exact⟨j+1,vs,Oo,Gg,rfl,hid ⟨by rw[e1.out];exact I,HC.out,HK.out,HB.out⟩⟩
      case measure=>simp[intOf];omega
     ·rw[hsj]at b1;have e1:=hid (xi s j hsj)
      go_wp2_with (first
       |(at_builtin;refine wpList_append_own _ rfl _ _ 25 rfl (W.heap.size+1) 3 i0 (.int .i64 0) 1 8 Tryz.underlying25 hi d9 e0 e2 rfl Dd _ _ _ rfl (I.alloc _) ⟨wr.heap.size,0,none⟩ 1 1 [.int .i64 j] rfl rfl ?c1 ?c2 ?c3 ?c4 ?c5 ?_))
      case c1=>
       intro j u hj;match j,hj with
       |0,hj=>simp at hj;subst hj;simp[Addr.add]
      case c2=>intro u hu;simp at hu;subst hu;rfl
      case c3=>unfold maxLen;omega
      case c4=>omega
      case c5=>simp;omega
      intro v' w1 M O _;have a9:Below (W.heap.size+1) wr w1:=((bM _ wr).alloc Oo _).grown O (by simp;omega) (λc e=>(I.lt c e).1);have U:Below W.heap.size wr w1:=a9.mono Oo;have HF:Hid (w1.ownsRow (W.heap.size+1) 3 1 v' (plc s (j+1)).length ((plc s (j+1)).map (Value.int .i64))/\Rdr w1 g a n cap (k+1+(1+z))/\Kc g W w1/\BoolsAt w1 W.heap.size q s):=hid ⟨by rw[e1.out];simpa using M,HC.out.above U a2 a3.out,HK.out.below U,HB.out.of_block (a9.block _ Oo)⟩;clear M O I a9 U;go_wp2;go_roundw
      case rel=>exact⟨j+1,v',Oo,Gg,rfl,HF⟩
      case measure=>simp[intOf];omega
    ·obtain rfl:j=q:=Oo;have i2:¬((j:Int) < (j:Int)):=Oo;have d8:=hid I;clear I hB;go_wp2;go_ret;refine⟨_,rfl,s,?_,HE.out,HC.out.mono Oo,HK.out⟩;have:=d8.out;refine⟨this.1,?_⟩;rcases this.2 with h0|⟨c,cp,cur,h1,h2,h3⟩
     ·exact Or.inl h0
     ·exact Or.inr ⟨c,cp,cur,h1,Oo,h3⟩
theorem Y6:∀{vr o:List Int},vr.Nodup->(∀x∈vr,x∈o)->vr.length<=o.length
 |[],_,_,_=>nZ _
 |a::r,o,hn,hs=>by
  rw[List.nodup_cons]at hn;have I:=hs a List.mem_cons_self;have M:=Y6 (vr:=r) (o:=o.erase a) hn.2 (λx K=>(List.mem_erase_of_ne (λe=>hn.1 (by rw[<-e];exact K))).2 (hs x (mC _ K)));rw[List.length_erase_of_mem I]at M;have:=List.length_pos_of_mem I;rw[List.length_cons];omega
theorem qFA{s:Nat}{e:TypeId}(h:w.ownsRow B e s v n xs)(K:Kc g w w')(M:g < B):w'.ownsRow B e s v n xs:=
 qA h λc I=>K.block c (h.lt c I).2 (by have:=(h.lt c I).1;omega)
structure OrW(k:Nat)(o:List Int):Prop where
 nd:o.Nodup
 lt:∀x∈o,0<=x/\x < (k:Int)
theorem OrW.free{o:List Int}(hl:o.length < k)(v:Nat):∃d:Nat,(((v+d) % k:Nat):Int)∉o:=by
 false_or_by_contra;rename_i hc
 have I:∀d:Nat,(((v+d) % k:Nat):Int)∈o:=λd=>by
  by_cases e:(((v+d) % k:Nat):Int)∈o
  ·exact e
  ·exact absurd ⟨d,e⟩ hc
 have:=Y6 (Yi k) (o:=o) λx M=>by
  unfold upN at M;obtain⟨i,hi,rfl⟩:=List.mem_map.1 M;have K:=List.mem_range.1 hi;have:=I (i+(k - v % k))
  have e:(v+(i+(k - v % k))) % k=i:=by
   have U:=Nat.div_add_mod v k;have V:=Nat.mod_lt v (show 0 < k by omega);have O:v+(i+(k - v % k))=i+k*(v / k+1):=by rw[Nat.mul_add];omega
   rw[O,Nat.add_mul_mod_self_left,Nat.mod_eq_of_lt K]
  rw[e]at this;exact this
 unfold upN at this;rw[lM,List.length_range]at this;omega
theorem OrW.push{o:List Int}(h:OrW k o){v:Nat}(hv:v < k)(M:(v:Int)∉o):OrW k (o++[(v:Int)]):=by
 refine⟨List.nodup_append.2 ⟨h.nd,List.pairwise_singleton _ _,λx I y K e=>?_⟩,λx I=>?_⟩
 ·rw[List.mem_singleton]at K;subst K e;exact M I
 ·rcases List.mem_append.1 I with I|I
  ·exact h.lt x I
  ·rw[List.mem_singleton]at I;omega
theorem OrW.ord{o:List Int}(h:OrW k o)(hl:o.length=k):uZ (k:Int) o=true:=by
 unfold uZ;rw[bA,dE,bY];refine⟨Oo,λi hi=>?_⟩;have I:=List.mem_range.1 hi;have M:∀j,(K:j < o.length)->o.getD j 0=o[j]:=λj K=>by rw[gD,bC K];rfl
 have O:=h.lt (o.getD i 0) (by rw[M i I];exact gM I);unfold vN;rw[bA,bA,Bool.not_eq_true',dE,dE,decide_eq_false_iff_not];refine⟨O,λU=>?_⟩;obtain⟨j,K,e⟩:=gO U;rw[bZ]at K;rw[List.getElem_take,M i I]at e;exact List.pairwise_iff_getElem.1 h.nd j i Oo I Oo e
theorem XS(W:World)(g:Nat)(a:Option Addr)(n cap k q:Nat)(hC:Rdr W g a n cap k)(hn:n<=1048576)(hk:k<=1000000)(hq:1<=q)(e3:q<=8):
 Cl 40 #[.pointer (some ⟨g,0,none⟩),.int .i64 q] W λe w'=>∃(v:Value) (o:List Int),e=.returned v/\w'.ownsRow W.heap.size 3 1 v o.length (o.map (Value.int .i64))/\o.length=q/\uZ (q:Int) o=true/\Rdr w' g a n cap (k+10)/\Kc g W w':=by
 obtain⟨i0,hi,a8,a9,b7⟩:=info_parts Tryz.infoInt
 have a2:g < W.heap.size:=by
  obtain⟨k',sd,_,h2⟩:=hC;exact bL W _ h2.c0
 have b9:Hid (∀b o,a=some ⟨b,o,none⟩->0 < n->b < W.heap.size):=hid (λb o e c7=>by
  obtain⟨k',sd,_,h2⟩:=hC;exact h2.byteLt e c7)
 have KP:Hid (∀(w:World) (k:Nat),Rdr w g a n cap k->k<=1000000000->Cl 35 #[.pointer (some ⟨g,0,none⟩),.int .i64 q] w λe w'=>∃z:Nat,e=.returned (.int .i64 z)/\(z < q∨z=0)/\Rdr w' g a n cap (k+1)/\Kc g w w'):=hid (λw k h h1=>yA w g a n cap k q h hn h1 Oo);have HX:Hid (Rdr (W.alloc (.cells #[] 3)) g a n cap (k+0)/\Kc g W (W.alloc (.cells #[] 3))/\(W.alloc (.cells #[] 3)).ownsRow W.heap.size 3 1 (.slice (some ⟨W.heap.size,0,none⟩) 0 0) 0 ([].map (Value.int .i64))/\OrW q []):=hid ⟨hC.below ((bM _ _).alloc (bK _) _),(Kc.refl _ _).below ((bM _ _).alloc (bK _) _),oM W #[] 0 (bK _) Dd rfl,⟨List.Pairwise.nil,λx hx=>by cases hx⟩⟩;clear hC;go_enter Tryz.func40,Tryz.ntmps40
 go_wp2_with fail
 go_loopg [5,6] q (λgk v _ wx=>∃(o:List Int) (m:Nat),m=o.length/\m<=q/\gk=q - m/\Hid (Rdr wx g a n cap (k+m)/\Kc g W wx/\wx.ownsRow W.heap.size 3 1 v m (o.map (Value.int .i64))/\OrW q o))
 case atStart=>exact⟨[],0,rfl,nZ _,rfl,HX⟩
 case round=>
  clear HX;obtain⟨o,m,hm,e4,e5,HI⟩:=hrel;obtain⟨hR,hK,hO,hW⟩:=HI.out
  obtain⟨ax,cx,ex⟩:∃a c,u5=.slice a m c:=by
   rcases hO.2 with ⟨rfl,h2⟩|⟨g,cap,cur,rfl,-⟩
   ·exact⟨none,0,by rw[h2]⟩
   ·exact⟨_,cap,rfl⟩
  subst ex;have HR:=hid hR;have HK:=hid hK;have HO:=hid hO;have HW:=hid hW;have HM:=hid hm;clear HI hR hK hO hW hm;by_cases e6:m < q
  ·have j1:(m:Int) < (q:Int):=Oo;go_upto_block 2 with (first|(go_at_call 35;refine(KP.out _ _ HR.out Oo).mono ?_;rintro e w1 ⟨z,rfl,hz,a3,O⟩)|fail)
   have c8:z < q:=Oo;have c9:=hid a3;have K:=hid (HK.out.trans O);have U:=hid (qFA HO.out O a2);have KH:Hid (∀x:Int,Cl 16 #[.slice ax m cx,.int .i64 x] w1 λe w'=>e=.returned (.bool (decide (x∈o)))/\w'=w1):=hid λx=>qU w1 _ o x (by have:=U.out;rw[HM.out]at this;have h9:=qK this;rw[<-HM.out]at h9;exact h9) (by have:=HM.out;omega);obtain⟨d0,a4⟩:=OrW.free (k:=q) (o:=o) (by have:=HM.out;omega) z;have a5:=hid a4;clear a3 O hz a4 HR HK HO;go_wp2_with fail
   go_loopg [6] d0 (λgk t wx=>∃(y d:Nat),t=.int .i64 y/\y < q/\gk=d/\wx=w1/\Hid ((((y+d) % q:Nat):Int)∉o))
   case atStart=>exact⟨z,d0,rfl,c8,rfl,rfl,a5⟩
   case round=>
    obtain⟨y,d,rfl,a6,e1,d6,HD⟩:=hrel;subst d6;by_cases hy:(y:Int)∈o
    ·have b1:decide ((y:Int)∈o)=true:=decide_eq_true hy;have b0:(0:Int)<=(y:Int)+1:=Oo;have b2:¬(q:Int)=0:=Oo
     have hd:0 < d:=by
      rcases Nat.eq_zero_or_pos d with rfl|h
      ·exfalso;refine HD.out ?_;rw[Nat.add_zero,Nat.mod_eq_of_lt a6];exact hy
      ·exact h
     go_wp2_with (first|(go_at_call 16;refine(KH.out (y:Int)).mono ?_;rintro e w' ⟨rfl,d7⟩;subst w')|fail)
     go_roundg (d - 1)
     case measure=>omega
     case rel=>
      refine⟨(y+1) % q,d - 1,?_,Nat.mod_lt _ Oo,rfl,rfl,hid ?_⟩
      ·first|rfl|(rw[show(((y+1) % q:Nat):Int)=((y:Int)+1) % (q:Int)by omega])
      ·have:=HD.out;rw[Nat.mod_add_mod,show y+1+(d - 1)=y+d by omega];exact this
    ·have b1:decide ((y:Int)∈o)=false:=decide_eq_false hy;have HN:=hid hy;clear HD a5 KP hy
     go_wp2_with (first
      |(go_at_call 16;refine(KH.out (y:Int)).mono ?_;rintro e w' ⟨rfl,d7⟩;subst w')
      |(at_builtin;refine wpList_append_lies _ rfl _ _ 25 rfl W.heap.size 3 i0 (.int .i64 0) 1 8 Tryz.underlying25 hi a8 a9 b7 rfl Dd (.slice ax m cx) m _ rfl (U.out.alloc _) ⟨wr.heap.size,0,none⟩ 1 1 [.int .i64 (y:Int)] rfl rfl (zJ _ _ _) (λu hu=>by simp at hu;subst hu;rfl) Dd (by unfold maxLen;omega) Oo (by have:=K.out.size;simp;omega) _ rfl ?_;intro e7 e2 d8 M I d9 e0)
      |fail)
     have a7:Below W.heap.size wr d8:=((bM _ _).alloc K.out.size _).grown I (by have:=K.out.size;simp;omega) (λc hc=>(U.out.lt c hc).1);go_roundg (q - (m+1))
     case measure=>omega
     case rel=>exact⟨o++[(y:Int)],m+1,by simp[HM.out],Oo,rfl,hid ⟨c9.out.above a7 a2 b9.out,K.out.below a7,by rw[mA];exact M,HW.out.push a6 HN.out⟩⟩
  ·obtain rfl:m=q:=Oo;have j1:¬(m:Int) < (m:Int):=Oo;clear KP;go_wp2_with fail
   go_ret;have V:=HM.out;exact⟨_,rfl,o,by rw[<-V];exact HO.out,V.symm,HW.out.ord V.symm,HR.out.mono Oo,HK.out⟩
def FndA(ls:List (List Int))(row:List Int)(k:Nat)(there:Bool):Prop:=
 k<=ls.length/\(∀i,i < k->cmpL (ls.getD i []) row < 0)/\(k < ls.length->¬cmpL (ls.getD k []) row < 0)/\(there=true↔k < ls.length/\cmpL (ls.getD k []) row=0)
def qGB(w:World)(ls:List (List Int))(row:List Int)(e:Ending)(w':World):Prop:=∃(k:Nat) (b:Bool),e=.returned (.tuple #[.int .i64 k,.bool b])/\FndA ls row k b/\∃q,w'=w.drewN q
theorem QF(w:World)(vr v:Value)(ls:List (List Int))(row:List Int)(h:ISS w vr ls)(hr:IS w v row)(hl:ls.length<=1099511627776)(hs:∀j,j < ls.length->(ls.getD j []).length<=1099511627776)(a4:row.length<=1099511627776):
 Cl 110 #[vr,v] w (qGB w ls row):=by
 obtain⟨a,cap,rfl,hc⟩:=h
 have U:Hid (∀d j,j < ls.length->∃b o u,a=some ⟨b,o,none⟩/\(w.drewN d).cell? ⟨b,o+j,none⟩=some u/\Cl 81 #[u,v] (w.drewN d) λe w'=>e=.returned (.int .i64 (cmpL (ls.getD j []) row))/\∃q,w'=w.drewN q):=hid λd j hj=>by
  rcases hc with h0|⟨b,o,rfl,hh⟩
  ·omega
  ·obtain⟨u,h1,h2⟩:=hh j hj;exact⟨b,o,u,rfl,h1,(zB (w.drewN d) u v _ row h2 hr (hs j hj) a4).mono λe w' ⟨e1,q,e2⟩=>⟨e1,d+q,by rw[e2];unfold World.drewN;simp[Nat.add_assoc]⟩⟩
 have V:Hid (∀k b,k<=ls.length->(∀i,i < k->cmpL (ls.getD i []) row < 0)->(k < ls.length->¬cmpL (ls.getD k []) row < 0)->(b=true↔k < ls.length/\cmpL (ls.getD k []) row=0)->FndA ls row k b):=hid λk b h1 h2 h3 h4=>⟨h1,h2,h3,h4⟩;obtain⟨av,cv,ev,-⟩:=hr;subst ev;clear hc hs;obtain⟨n,hn⟩:∃n,n=ls.length:=⟨_,rfl⟩;rw[<-hn]at U V hl ⊢;clear hn;generalize row.length=rl at *;go_enter Tryz.func110,Tryz.ntmps110
 go_wp2_with fail
 go_loopw [6] (λt wr=>∃j:Nat,j<=n/\t=.int .i64 j/\Hid ((∀i,i < j->cmpL (ls.getD i []) row < 0)/\∃d,wr=w.drewN d)) (λt _=>n - (intOf t).toNat)
 case atStart=>exact⟨0,nZ _,rfl,hid ⟨λi hi=>Oo,0,rfl⟩⟩
 case round=>
  obtain⟨j,hj,rfl,HH⟩:=hrel;obtain⟨I,d,rfl⟩:=HH.out;by_cases M:j < n
  ·have j1:(j:Int) < (n:Int):=Oo;obtain⟨b,o,u,ea,c1,K⟩:=U.out d j M;subst ea;have HK:=hid K;by_cases a2:cmpL (ls.getD j []) row < 0
   ·have nxt:Hid (∀i,i < j+1->cmpL (ls.getD i []) row < 0):=hid λi hi=>by
     by_cases e:i=j
     ·rw[e];exact a2
     ·exact I i Oo
    clear K U V HH I;generalize cmpL (ls.getD j []) row=z at *;go_wp2_with (first|(go_at_call 81;refine HK.out.mono ?_;rintro e w2 ⟨rfl,d2,rfl⟩)|fail)
    go_roundw
    case rel=>exact⟨j+1,Oo,Gg,hid ⟨nxt.out,_,rfl⟩⟩
    case measure=>simp[intOf];omega
   ·have O:Hid (FndA ls row j (cmpL (ls.getD j []) row == 0)):=hid (V.out j _ Oo I (λ_=>Oo) (by simp[M]))
    have a3:Hid (∀d2,(w.drewN d2).cell? ⟨b,o+j,none⟩=some u/\Cl 81 #[u,.slice av rl cv] (w.drewN d2) λe w'=>e=.returned (.int .i64 (cmpL (ls.getD j []) row))/\∃q,w'=w.drewN q):=hid λd2=>by
     obtain⟨b',o',u',e',c',K'⟩:=U.out d2 j M;simp only[Option.some.injEq,Addr.mk.injEq,and_true]at e';obtain⟨rfl,rfl⟩:=e';have:u'=u:=Option.some.inj (c'.symm.trans c1);subst this;exact⟨c',K'⟩
    clear K U V HH I;generalize cmpL (ls.getD j []) row=z at *;go_wp2_with (first|(go_at_call 81;refine HK.out.mono ?_;rintro e w2 ⟨rfl,d2,rfl⟩;have c2:=(a3.out d2).1;clear HK)|(go_at_call 81;refine(a3.out d2).2.mono ?_;rintro e w3 ⟨rfl,d3,rfl⟩)|fail)
    go_ret2;exact⟨_,_,rfl,O.out,_,rfl⟩
  ·obtain rfl:j=n:=Oo;have j1:¬((j:Int) < (j:Int)):=Oo;have O:Hid (FndA ls row j false):=hid (V.out j _ (bK _) I (λh=>absurd h M) Ss);clear U V HH I;go_wp2_with fail
   go_ret2;exact⟨_,_,rfl,O.out,_,rfl⟩
section
variable {P:Program} (w:World)
def Part(w:World)(size:Nat)(vx:Value)(m:Nat)(news:List Value):Prop:=
 (vx=.slice none 0 0/\m=0/\news=[])∨∃ad c,vx=.slice (some ad) m c/\news.length=m*size/\∀j u,news[j]?=some u->w.cell? (ad.add j)=some u
theorem Zd(base:Nat)(t ty e:TypeId)(i:TypeInfo)(z:Value)(size bytes:Nat)(ht:P.underlying t=some (.slice e))(hi:P.info? e=some i)(hz:i.zero=some z)
 (M:i.size=size) (U:i.bytes=bytes) (V:z.cells.size=size) (a2:0 < size)
 (v:Value) (n:Nat) (xs:List Value) (I:w.ownsRow base e size v n xs)
 (vx:Value) (m:Nat) (news:List Value) (hp:Part w size vx m news) (h1:∀u∈news,u.oneCell'=true)
 (a3:n+m<=maxLen) (K:(n+m)*bytes<=140737488355328) (O:base<=w.heap.size):
 ∃v' w',(Builtin.append_ #[t,t] ty #[v,vx]).run P w=.ok v' w'/\w'.ownsRow base e size v' (n+m) (xs++news)/\w.grownBy w' v.ownBlock:=by
 rcases hp with ⟨rfl,rfl,rfl⟩|⟨ad,c,rfl,hl,hc⟩
 ·exact⟨v,w,run_append_owned_none w base t ty e i size ht hi v n xs I,by simpa using I,⟨rfl,rfl,rfl,bK _,λ_ _ _=>rfl⟩⟩
 ·obtain⟨v',w',hr,h2,h3,_⟩:=run_append_own (P:=P) w base t ty e i z size bytes ht hi hz M U V a2 v n xs I ad m c news hl hc h1 a3 K O;exact⟨v',w',hr,h2,h3⟩
theorem jc{o:Oper}{a:Act}{K:Act->World->Prop}{Q:Exit->Act->World->Prop}(s x:Operand)(t:TypeId)
 (ho:o.op=.call { callee:=.builtin .append,args:=#[s,x],argTypes:=#[t,t] })
 (base:Nat) (e:TypeId) (i:TypeInfo) (z:Value) (size bytes:Nat) (ht:P.underlying t=some (.slice e)) (hi:P.info? e=some i) (hz:i.zero=some z)
 (M:i.size=size) (V:i.bytes=bytes) (a2:z.cells.size=size) (a3:0 < size)
 (v:Value) (n:Nat) (xs:List Value) (hs:a.eval s=v) (U:w.ownsRow base e size v n xs)
 (vx:Value) (m:Nat) (news:List Value) (hx:a.eval x=vx) (hp:Part w size vx m news) (h1:∀u∈news,u.oneCell'=true)
 (a4:n+m<=maxLen) (I:(n+m)*bytes<=140737488355328) (O:base<=w.heap.size)
 (h:∀v' w',w'.ownsRow base e size v' (n+m) (xs++news)->w.grownBy w' v.ownBlock->K (a.put o.dst v') w'):o.wp P a w K Q:=by
 obtain⟨v',w',hr,h2,h3⟩:=Zd (P:=P) w base t o.type e i z size bytes ht hi hz M V a2 a3 v n xs U vx m news hp h1 a4 I O;unfold Oper.wp execOp;simp only[ho,resolve,invoke,builtin,Sem.run_bind,Sem.run_pure,Result.andThen_ok,List.map_toArray,List.map_cons,List.map_nil,hs,hx,hr];exact h v' w' h2 h3
theorem qq{ops:Array Oper}{rest:List Oper}{o:Oper}{a:Act}{Q:Exit->Act->World->Prop}(U:o.guard=none)(s x:Operand)(t:TypeId)
 (ho:o.op=.call { callee:=.builtin .append,args:=#[s,x],argTypes:=#[t,t] })
 (base:Nat) (e:TypeId) (i:TypeInfo) (z:Value) (size bytes:Nat) (ht:P.underlying t=some (.slice e)) (hi:P.info? e=some i) (hz:i.zero=some z)
 (K:i.size=size) (V:i.bytes=bytes) (a2:z.cells.size=size) (a3:0 < size)
 (v:Value) (n:Nat) (xs:List Value) (hs:a.eval s=v) (O:w.ownsRow base e size v n xs)
 (vx:Value) (m:Nat) (news:List Value) (hx:a.eval x=vx) (hp:Part w size vx m news) (h1:∀u∈news,u.oneCell'=true)
 (a4:n+m<=maxLen) (I:(n+m)*bytes<=140737488355328) (M:base<=w.heap.size)
 (h:∀v' w',w'.ownsRow base e size v' (n+m) (xs++news)->w.grownBy w' v.ownBlock->wpList P ops Q rest (a.put o.dst v') w'):wpList P ops Q (o::rest) a w:=
 wpList_plain U λ_ hK=>jc w s x t ho base e i z size bytes ht hi hz K V a2 a3 v n xs hs O vx m news hx hp h1 a4 I M λv' w' h2 h3=>hK _ _ (h v' w' h2 h3)
theorem zT{ops:Array Oper}{o:Oper}{a:Act}{K:Act->World->Prop}{Q:Exit->Act->World->Prop}{E:Prop}(V:o.guard=none)(s x:Operand)(t:TypeId)
 (ho:o.op=.call { callee:=.builtin .append,args:=#[s,x],argTypes:=#[t,t] })
 (base:Nat) (e:TypeId) (i:TypeInfo) (z:Value) (size bytes:Nat) (ht:P.underlying t=some (.slice e)) (hi:P.info? e=some i) (hz:i.zero=some z)
 (M:i.size=size) (a2:i.bytes=bytes) (a3:z.cells.size=size) (a4:0 < size)
 (v:Value) (n:Nat) (xs:List Value) (hs:a.eval s=v) (U:w.ownsRow base e size v n xs)
 (vx:Value) (m:Nat) (news:List Value) (hx:a.eval x=vx) (hp:Part w size vx m news) (h1:∀u∈news,u.oneCell'=true)
 (a5:n+m<=maxLen) (I:(n+m)*bytes<=140737488355328) (O:base<=w.heap.size)
 (h:∀v' w',w'.ownsRow base e size v' (n+m) (xs++news)->w.grownBy w' v.ownBlock->K (a.put o.dst v') w'):
 if Region.wanted o (yielded ops a.tmps)=true then Oper.wp P o a w K Q else E:=by
 have hw:Region.wanted o (yielded ops a.tmps)=true:=by simp[Region.wanted,V]
 rw[if_pos hw];exact jc w s x t ho base e i z size bytes ht hi hz M a2 a3 a4 v n xs hs U vx m news hx hp h1 a5 I O h
end
theorem Tryz.infoRw:(Tryz.prog.info? 25).map (λi=>(i.zero,i.size,i.bytes))=some (some (.slice none 0 0),1,24):=by kernel_rfl
theorem Tryz.infoIw:(Tryz.prog.info? 3).map (λi=>(i.zero,i.size,i.bytes))=some (some (.int .i64 0),1,8):=by kernel_rfl
def xd(k:Nat)(there:Bool):Nat:=if there then k+1 else k
def qX{α:Type}(l:List α)(k:Nat)(there:Bool)(x:α):List α:=(l.take k++[x])++l.drop (xd k there)
structure Pt(w:World)(W:World)(v1 v2:Value)(n1 n2:Nat)(xs ys:List Value):Prop where
 bel:Bl w W
 own1:W.ownsRow w.heap.size 25 1 v1 n1 xs
 own2:W.ownsRow w.heap.size 3 1 v2 n2 ys
theorem Pt.drew(h:Pt w W v1 v2 n1 n2 xs ys):Pt w W.drew v1 v2 n1 n2 xs ys:=⟨h.bel.drew,h.own1,h.own2⟩
theorem Yr{M O:TypeId}(h1:W.ownsRow B M 1 v1 n1 xs)(h2:W.ownsRow B O 1 v2 n2 ys)(K:M≠O):v1.ownBlock=none∨v1.ownBlock≠v2.ownBlock:=by
 rcases h1.2 with ⟨rfl,-⟩|⟨g,cap,cur,rfl,-,hg,-⟩
 ·exact Or.inl rfl
 ·refine Or.inr λe=>?_;rcases h2.2 with ⟨rfl,-⟩|⟨g',U,V,rfl,-,I,-⟩
  ·cases e
  ·simp only[Value.ownBlock,Option.some.injEq]at e;subst e;rw[hg]at I;simp only[Option.some.injEq,Obj.cells.injEq]at I;exact K I.2.1
theorem Pt.one(h:Pt w W v1 v2 n1 n2 xs ys)(M:W'.ownsRow w.heap.size 25 1 v' I zs)(K:W.grownBy W' v1.ownBlock):Pt w W' v' v2 I n2 zs ys:=
 ⟨h.bel.grown K h.bel.size (λk e=>(h.own1.lt k e).1),M,h.own2.kept K (Yr h.own2 h.own1 Dd)⟩
theorem Pt.two(h:Pt w W v1 v2 n1 n2 xs ys)(M:W'.ownsRow w.heap.size 3 1 v' I zs)(K:W.grownBy W' v2.ownBlock):Pt w W' v1 v' n1 I xs zs:=
 ⟨h.bel.grown K h.bel.size (λk e=>(h.own2.lt k e).1),h.own1.kept K (Yr h.own1 h.own2 Dd),M⟩
theorem uL{news:List Value}(hb:Bl w W)(hl:news.length=m)(h:∀j u,news[j]?=some u->w.cell? ⟨g,o+j,none⟩=some u):Part W 1 (.slice (some ⟨g,o,none⟩) m c) m news:=by
 refine Or.inr ⟨_,_,rfl,Oo,λj u I=>?_⟩;have e:(⟨g,o,none⟩:Addr).add j=⟨g,o+j,none⟩:=by unfold Addr.add;split <;> simp_all
 rw[e];have:=h j u I;exact(hb.cell (p:=⟨g,o+j,none⟩) (bL w _ this)).trans this
def qDc(w:World)(us:List Value)(ls:List (List Int))(ws row:List Int)(vr:Value)(wt:Int)(e:Ending)(w':World):Prop:=∃k there v1 v2,FndA ls row k there/\e=.returned (.tuple #[v1,v2])/\Pt w w' v1 v2 (qX us k there vr).length (qX us k there vr).length (qX us k there vr) ((qX ws k there wt).map (Value.int .i64))
theorem vE{α:Type}(l:List α)(there:Bool)(x:α)(h:k<=l.length):(qX l k there x).length=k+1+(l.length - xd k there):=by
 unfold qX;rw[lA,lA,bZ,List.length_drop,lS];omega
theorem qA7(w:World)(g1 n c1 g2 c2:Nat)(vr:Value)(us:List Value)(ls:List (List Int))(ws row:List Int)(wt:Int)
 (hn:n=ls.length) (f7:us.length=ls.length) (f8:ws.length=ls.length) (i3:n<=c1) (i4:n<=c2) (i5:n<=2000)
 (hR:ISS w (.slice (some ⟨g1,0,none⟩) n c1) ls) (hs:∀j,j < ls.length->(ls.getD j []).length<=1099511627776) (hu:∀j u,us[j]?=some u->w.cell? ⟨g1,j,none⟩=some u) (f9:∀u∈us,u.oneCell'=true)
 (hw:∀j u,(ws.map (Value.int .i64))[j]?=some u->w.cell? ⟨g2,j,none⟩=some u) (hr:IS w vr row) (i6:vr.oneCell'=true) (h7:row.length<=1099511627776):
 Cl 70 #[.slice (some ⟨g1,0,none⟩) n c1,.slice (some ⟨g2,0,none⟩) n c2,vr,.int .i64 wt] w (qDc w us ls ws row vr wt):=by
 obtain⟨i0,hi,d7,d8,d9⟩:=info_parts Tryz.infoRw;obtain⟨i1,e0,e1,e2,e3⟩:=info_parts Tryz.infoIw;have K:=hid (QF w _ vr ls row hR hr Oo hs h7);obtain⟨av,cv,rfl,-⟩:=hr;have HU:=hid hu;have e8:=hid f9;have HW:=hid hw;have HN:=hid (And.intro hn (And.intro f7 f8));clear hR hu f9 hw hs hn f7 f8;generalize row.length=rl at *;go_enter Tryz.func70,Tryz.ntmps70
 go_upto_region 2 with (first|(go_at_call 110;refine K.out.mono ?_;rintro e w1 ⟨k,there,rfl,hF,d,rfl⟩)|fail)
 have hk:k<=n:=by rw[HN.out.1];exact hF.1
 have HF:=hid hF;have i7:(k:Int)<=(c1:Int):=Oo;have i2:(k:Int)<=(c2:Int):=Oo;have b7:Hid (Bl w (w.drewN d)):=hid (below_drewN (bM _ _) d);generalize w.drewN d=W1 at b7 ⊢;clear hF K;have g4:(W1.alloc (.cells #[] 25)).ownsRow w.heap.size 25 1 (.slice (some ⟨W1.heap.size,0,none⟩) 0 0) 0 []:=oM W1 #[] 0 b7.out.size Dd rfl;have e9:Bl w (W1.alloc (.cells #[] 25)):=b7.out.alloc b7.out.size _
 have g5:Part (W1.alloc (.cells #[] 25)) 1 (.slice (some ⟨g1,0,none⟩) k c1) k (us.take k):=uL e9 (by rw[bZ];have:=HN.out;omega) (λj u U=>by
  rw[Nat.zero_add];rw[List.getElem?_take]at U;split at U
  ·exact HU.out j u U
  ·cases U)
 have e4:=hid (And.intro g4 g5);have e5:=hid e9;clear g4 g5 e9;go_upto_region 3 with (first|(at_builtin;refine qq _ rfl _ _ 24 rfl w.heap.size 25 i0 (.slice none 0 0) 1 24 Tryz.underlying24 hi d7 d8 d9 rfl Dd _ 0 [] rfl e4.out.1 _ k (us.take k) rfl e4.out.2 (λu I=>e8.out u (List.mem_of_mem_take I)) (by unfold maxLen;omega) Oo e5.out.size ?_;intro v3 w3 b9 a7)|fail)
 have c7:Hid (Bl w w3):=hid (e5.out.grown a7 e5.out.size (λq e=>(e4.out.1.lt q e).1));have f4:Hid (w3.ownsRow w.heap.size 25 1 v3 k (us.take k)):=hid (by simpa using b9);clear b9 a7 e4 e5 b7;have g6:Hid (Part (w3.alloc (.cells #[.slice av rl cv] 25)) 1 (.slice (some ⟨w3.heap.size,0,none⟩) 1 1) 1 [.slice av rl cv]):=hid (Or.inr ⟨_,_,rfl,rfl,zJ _ _ _⟩);go_upto_region 4 with (first|(at_builtin;refine qq _ rfl _ _ 24 rfl w.heap.size 25 i0 (.slice none 0 0) 1 24 Tryz.underlying24 hi d7 d8 d9 rfl Dd _ k (us.take k) rfl (f4.out.alloc _) _ 1 [.slice av rl cv] rfl g6.out (λu I=>by simp at I;subst I;rfl) (by unfold maxLen;omega) Oo (by have:=c7.out.size;simp;omega) ?_;intro v4 w4 c8 a8)|fail)
 have e6:Hid (Bl w w4):=hid ((c7.out.alloc c7.out.size _).grown a8 (by have:=c7.out.size;simp;omega) (λq e=>(f4.out.lt q e).1));have g7:=hid c8;clear c8 a8 f4 c7 g6;have g8:(w4.alloc (.cells #[] 3)).ownsRow w.heap.size 3 1 (.slice (some ⟨w4.heap.size,0,none⟩) 0 0) 0 []:=oM w4 #[] 0 e6.out.size Dd rfl;have c9:Hid (Pt w (w4.alloc (.cells #[] 3)) v4 (.slice (some ⟨w4.heap.size,0,none⟩) 0 0) (k+1) 0 (us.take k++[.slice av rl cv]) []):=hid ⟨e6.out.alloc e6.out.size _,g7.out.alloc _,g8⟩
 have g9:Hid (Part (w4.alloc (.cells #[] 3)) 1 (.slice (some ⟨g2,0,none⟩) k c2) k ((ws.take k).map (Value.int .i64))):=hid (uL c9.out.bel (by rw[lM,bZ];have:=HN.out;omega) (λj u U=>by
  rw[Nat.zero_add];rw[List.map_take,List.getElem?_take]at U;split at U
  ·exact HW.out j u U
  ·cases U))
 clear g8 g7 e6;go_upto_region 5 with (first|(at_builtin;refine qq _ rfl _ _ 25 rfl w.heap.size 3 i1 (.int .i64 0) 1 8 Tryz.underlying25 e0 e1 e2 e3 rfl Dd _ 0 [] rfl c9.out.own2 _ k ((ws.take k).map (Value.int .i64)) rfl g9.out (λu I=>by rw[List.mem_map]at I;obtain⟨y,-,rfl⟩:=I;rfl) (by unfold maxLen;omega) Oo c9.out.bel.size ?_;intro v6 w6 d0 a9)|fail)
 have a3:=hid (c9.out.two d0 a9);clear d0 a9 c9 g9;have h0:Hid (Part (w6.alloc (.cells #[.int .i64 wt] 3)) 1 (.slice (some ⟨w6.heap.size,0,none⟩) 1 1) 1 [.int .i64 wt]):=hid (Or.inr ⟨_,_,rfl,rfl,zJ _ _ _⟩);go_upto_region 6 with (first|(at_builtin;refine qq _ rfl _ _ 25 rfl w.heap.size 3 i1 (.int .i64 0) 1 8 Tryz.underlying25 e0 e1 e2 e3 rfl Dd _ (0+k) ([]++(ws.take k).map (Value.int .i64)) rfl (a3.out.own2.alloc _) _ 1 [.int .i64 wt] rfl h0.out (λu I=>by simp at I;subst I;rfl) (by unfold maxLen;omega) Oo (by have:=a3.out.bel.size;simp;omega) ?_;intro v7 w7 d6 b0)|fail)
 have h3:Hid (Pt w w7 v4 v7 (k+1) (k+1) (us.take k++[.slice av rl cv]) ((ws.take k++[wt]).map (Value.int .i64))):=hid (by
  have h1:Pt w (w6.alloc (.cells #[.int .i64 wt] 3)) v4 v6 (k+1) (0+k) (us.take k++[.slice av rl cv]) ([]++(ws.take k).map (Value.int .i64)):=⟨a3.out.bel.alloc a3.out.bel.size _,a3.out.own1.alloc _,a3.out.own2.alloc _⟩;have h2:=h1.two d6 b0;simpa[Nat.zero_add,List.map_append]using h2)
 clear d6 b0 a3 h0;have O:Hid (Pt w w7.drew v4 v7 (k+1) (k+1) (us.take k++[.slice av rl cv]) ((ws.take k++[wt]).map (Value.int .i64))):=hid h3.out.drew
 have h4:Hid (∀m,m<=n->∀W,Bl w W->Part W 1 (.slice (if c1=m then some ⟨g1,0,none⟩ else some ⟨g1,m,none⟩) (n - m) (c1 - m)) (n - m) (us.drop m)):=hid λm hm W hW=>by
  have h8:=HN.out;split
  ·exact uL hW (by rw[List.length_drop];omega) (λj u U=>by
    rw[gN (by rw[List.length_drop];omega)]at U;cases U)
  ·exact uL hW (by rw[List.length_drop];omega) (λj u U=>by
    rw[List.getElem?_drop]at U;exact HU.out _ u U)
 have h5:Hid (∀m,m<=n->∀W,Bl w W->Part W 1 (.slice (if c2=m then some ⟨g2,0,none⟩ else some ⟨g2,m,none⟩) (n - m) (c2 - m)) (n - m) ((ws.drop m).map (Value.int .i64))):=hid λm hm W hW=>by
  have h8:=HN.out;split
  ·exact uL hW (by rw[lM,List.length_drop];omega) (λj u U=>by
    rw[gN (by rw[lM,List.length_drop];omega)]at U;cases U)
  ·exact uL hW (by rw[lM,List.length_drop];omega) (λj u U=>by
    rw[List.map_drop,List.getElem?_drop]at U;exact HW.out _ u U)
 have e7:∀u∈us,u.oneCell'=true:=e8.out;have H1:=hid e7;clear e7 HU e8 HW h3;cases hth:there
 ·subst hth;have hm:k<=n:=hk;have j1:(k:Int)<=(n:Int):=Oo;go_upto_region 8 with fail
  go_region_held_law (λW=>Bl w W)
   (first|exact a4.out.bel|exact M.out.bel|exact O.out.bel|exact a4.out.bel.drew|exact M.out.bel.drew|exact O.out.bel.drew|fail)
   (first
   |(refine zT _ (by rfl) _ _ 24 (by rfl) w.heap.size 25 i0 (.slice none 0 0) 1 24 Tryz.underlying24 hi d7 d8 d9 rfl Dd _ (k+1) (us.take k++[.slice av rl cv]) (by rfl) O.out.own1 _ (n - k) (us.drop k) (by rfl) (h4.out k hm _ O.out.bel) (λu I=>H1.out u (List.mem_of_mem_drop I)) (by unfold maxLen;omega) Oo O.out.bel.size ?_;intro v8 w8 a5 V;have M:=hid (O.out.one a5 V))
   |(refine zT _ (by rfl) _ _ 25 (by rfl) w.heap.size 3 i1 (.int .i64 0) 1 8 Tryz.underlying25 e0 e1 e2 e3 rfl Dd _ (k+1) ((ws.take k++[wt]).map (Value.int .i64)) (by rfl) M.out.own2 _ (n - k) ((ws.drop k).map (Value.int .i64)) (by rfl) (h5.out k hm _ M.out.bel) (λu I=>by rw[List.mem_map]at I;obtain⟨y,-,rfl⟩:=I;rfl) (by unfold maxLen;omega) Oo M.out.bel.size ?_;intro v9 w9 a6 a2;have a4:=hid (M.out.two a6 a2))
   |fail)
  all_goals go_wp2_with fail
  all_goals
   go_ret2
   refine⟨k,false,v8,v9,HF.out,rfl,?_⟩
   have hP:=a4.out
   have hL:(qX us k false (.slice av rl cv)).length=k+1+(n - k):=by rw[vE us false _ (by have:=HN.out;omega)];have:=HN.out;unfold xd;simp;omega
   rw[hL]
   rw[<-mA]at hP
   exact hP
 ·subst hth;obtain⟨m,h6⟩:∃m,m=k+1:=⟨_,rfl⟩;have hm:m<=n:=by have h1:=(HF.out.2.2.2.1 rfl).1;have:=HN.out;omega
  have he:(k:Int)+1=(m:Int):=Oo;have j1:(m:Int)<=(n:Int):=Oo;have j2:(m:Int)<=(c1:Int):=Oo;have j3:(m:Int)<=(c2:Int):=Oo;have h9:=hid h6;clear h6;go_upto_region 8 with fail
  go_region_held_law (λW=>Bl w W)
   (first|exact a4.out.bel|exact M.out.bel|exact O.out.bel|exact a4.out.bel.drew|exact M.out.bel.drew|exact O.out.bel.drew|fail)
   (first
   |(refine zT _ (by rfl) _ _ 24 (by rfl) w.heap.size 25 i0 (.slice none 0 0) 1 24 Tryz.underlying24 hi d7 d8 d9 rfl Dd _ (k+1) (us.take k++[.slice av rl cv]) (by rfl) O.out.own1 _ (n - m) (us.drop m) (by rfl) (h4.out m hm _ O.out.bel) (λu I=>H1.out u (List.mem_of_mem_drop I)) (by unfold maxLen;omega) Oo O.out.bel.size ?_;intro v8 w8 a5 V;have M:=hid (O.out.one a5 V))
   |(refine zT _ (by rfl) _ _ 25 (by rfl) w.heap.size 3 i1 (.int .i64 0) 1 8 Tryz.underlying25 e0 e1 e2 e3 rfl Dd _ (k+1) ((ws.take k++[wt]).map (Value.int .i64)) (by rfl) M.out.own2 _ (n - m) ((ws.drop m).map (Value.int .i64)) (by rfl) (h5.out m hm _ M.out.bel) (λu I=>by rw[List.mem_map]at I;obtain⟨y,-,rfl⟩:=I;rfl) (by unfold maxLen;omega) Oo M.out.bel.size ?_;intro v9 w9 a6 a2;have a4:=hid (M.out.two a6 a2))
   |fail)
  all_goals go_wp2_with fail
  all_goals
   go_ret2
   refine⟨k,true,v8,v9,HF.out,rfl,?_⟩
   have hP:=a4.out
   rw[h9.out]at hP
   have hL:(qX us k true (.slice av rl cv)).length=k+1+(n - (k+1)):=by rw[vE us true _ (by have:=HN.out;omega)];have:=HN.out;unfold xd;simp;omega
   rw[hL]
   rw[<-mA]at hP
   exact hP
abbrev CSt:=Nat×Int
def byF(L:Nat->Int)(n:Nat)(s:CSt):Int×CSt:=
 if 150+40*(n:Int) < (s.1:Int)+1 then (0,(s.1+1,s.2))
 else if (n:Int) < (s.1:Int)+1 then ((s.2*1103515245+12345) % 2147483648 / 65536 % 256,(s.1+1,(s.2*1103515245+12345) % 2147483648))
 else (L s.1,(s.1+1,(s.2*31+L s.1+7) % 2147483648))
section
variable {L:Nat->Int} {n k:Nat} {sd:Int}
theorem Xe(h:150+40*(n:Int) < (k:Int)+1):byF L n (k,sd)=(0,(k+1,sd)):=if_pos h
theorem K4(h:¬150+40*(n:Int) < (k:Int)+1)(I:(n:Int) < (k:Int)+1):byF L n (k,sd)=((sd*1103515245+12345) % 2147483648 / 65536 % 256,(k+1,(sd*1103515245+12345) % 2147483648)):=by unfold byF;rw[if_neg h,if_pos I]
theorem qBt(h:¬150+40*(n:Int) < (k:Int)+1)(I:¬(n:Int) < (k:Int)+1):byF L n (k,sd)=(L k,(k+1,(sd*31+L k+7) % 2147483648)):=by unfold byF;rw[if_neg h,if_neg I]
end
theorem Kc.cell(h:Kc g w w'){b:Nat}(hb:b≠g)(I:w.cell? ⟨b,o,none⟩=some v):w'.cell? ⟨b,o,none⟩=some v:=
 (bF (w:=w) (a:=⟨b,o,none⟩) (h.block b (bL w _ I) hb)).trans I
def RdF(W:World)(g:Nat)(a:Option Addr)(L:Nat->Int)(n cap:Nat)(s:CSt):Prop:=RdrAt W g a n cap s.1 s.2/\∀j,j < n->∀b o,a=some ⟨b,o,none⟩->W.cell? ⟨b,o+j,none⟩=some (.int .u8 (L j))
theorem RdF.of{L:Nat->Int}{k1:Nat}(U:∀j,j < n->∀b o,a=some ⟨b,o,none⟩->W.cell? ⟨b,o+j,none⟩=some (.int .u8 (L j)))(h:RdrAt W' g a n cap p sd)(V:Kc g W W')(e:p=(k1:Int):=by rfl):RdF W' g a L n cap (k1,sd):=by
 subst e;refine⟨h,λj M b o O=>?_⟩;obtain⟨b',o',x,I,K,-⟩:=h.bytes j M;rw[O]at I;simp only[Option.some.injEq,Addr.mk.injEq,and_true]at I;obtain⟨rfl,rfl⟩:=I;exact V.cell K (U j M b o O)
theorem qBu{L:Nat->Int}{s:CSt}(h:RdF W g a L n cap s):0<=(byF L n s).1/\(byF L n s).1 < 256:=by
 obtain⟨k,sd⟩:=s;by_cases K:150+40*(n:Int) < (k:Int)+1
 ·rw[Xe K];simp
 ·by_cases M:(n:Int) < (k:Int)+1
  ·rw[K4 K M];simp only;omega
  ·rw[qBt K M];obtain⟨b,o,x,e,-,O,U⟩:=h.1.bytes k Oo;have:=h.2 k Oo b o e;have I:W.cell? ⟨b,o+k,none⟩=some (.int .u8 x):=O;rw[this]at I;simp only[Option.some.injEq,Value.int.injEq,true_and]at I;rw[I];exact U
theorem Jv(W:World)(g:Nat)(a:Option Addr)(L:Nat->Int)(n cap:Nat)(s:CSt)(h':RdF W g a L n cap s)(hn:n<=1048576)(M:s.1<=1000000000):
 Cl 69 #[.pointer (some ⟨g,0,none⟩)] W λe w'=>e=.returned (.int .i64 (byF L n s).1)/\RdF w' g a L n cap (byF L n s).2/\Kc g W w':=by
 obtain⟨k,sd⟩:=s;have hk:k<=1000000000:=M;obtain⟨h,hL⟩:=h';have HL:=hid hL;clear hL M;have HC:=hid h;obtain⟨c0,c1,c2,f1,f2,-,hs,a6⟩:=h;go_enter Tryz.func69,Tryz.ntmps69
 go_upto_region 2 with fail
 have O:=HC.out.set1 ((k:Int)+1);have U:=(Kc.refl g W).set 1 (.int .i64 ((k:Int)+1));generalize W.setCell ⟨g,1,none⟩ (.int .i64 ((k:Int)+1))=W1 at *;clear c0 c1 c2 f1 f2;have K:=hid O;have I:=hid U;obtain⟨c0,c1,c2,f1,f2,V,-⟩:=O;have a4:=hid V
 clear V U;by_cases h1:150+40*(n:Int) < (k:Int)+1
 ·go_quiet (fail)
  go_wp2;go_ret;refine⟨by rw[Xe (n:=n) (k:=k) Oo];rfl,?_,I.out.drewN _⟩;rw[Xe (n:=n) (k:=k) Oo];exact RdF.of HL.out (k1:=k+1) (K.out.drewN _) (I.out.drewN _)
 ·go_quiet (fail)
  go_wp2;by_cases h2:(n:Int) < (k:Int)+1
  ·go_quiet (fail)
   go_wp2;go_ret;rw[K4 (n:=n) (k:=k) Oo Oo];refine⟨rfl,?_,?_⟩
   ·exact RdF.of HL.out (k1:=k+1) ((K.out.drewN _).set2 ((sd*1103515245+12345) % 2147483648) ⟨Oo,Oo⟩) ((I.out.drewN _).set _ _)
   ·exact(I.out.drewN _).set _ _
  ·obtain⟨b,o,x,rfl,a2,c3,hx,a7⟩:=a4.out k Oo
   have a3:x=L k:=by
    have hc:=HL.out k Oo b o rfl;have hb:=I.out.cell a2 hc;rw[hb]at c3;simp only[Option.some.injEq,Value.int.injEq,true_and]at c3;exact c3.symm
   have HX:=hid a3;clear a3;have i1:(k:Int) < (n:Int):=Oo;have i2:(k:Int)+1 - 1=(k:Int):=Oo;have a5:g≠b:=λe=>a2 e.symm;go_quiet (fail)
   go_wp2_with fail
   go_region
   all_goals
    go_wp2_with fail
    go_quiet (fail)
    go_wp2
    go_ret
    rw[qBt (n:=n) (k:=k) Oo Oo,<-HX.out]
    refine⟨rfl,?_,?_⟩
    ·exact RdF.of HL.out (k1:=k+1) (((K.out.drewN _).set2 ((sd*31+x+7) % 2147483648) ⟨Oo,Oo⟩).drewN _) (((I.out.drewN _).set _ _).drewN _)
    ·exact((I.out.drewN _).set _ _).drewN _
def pkF(L:Nat->Int)(n m:Nat)(s:CSt):Nat×CSt:=if m<=1 then (0,s) else ((byF L n s).1.toNat % m,(byF L n s).2)
theorem QD{L:Nat->Int}{s:CSt}:(pkF L n m s).1 < m∨(pkF L n m s).1=0:=by
 unfold pkF;split
 ·exact Or.inr rfl
 ·exact Or.inl (Nat.mod_lt _ Oo)
theorem qFc(L:Nat->Int)(n:Nat)(s:CSt):(byF L n s).2.1=s.1+1:=by
 unfold byF;split
 ·rfl
 ·split <;> rfl
theorem Zy(L:Nat->Int)(n m:Nat)(s:CSt):(pkF L n m s).2.1<=s.1+1:=by
 unfold pkF;split
 ·exact Nat.le_succ _
 ·exact Nat.le_of_eq (qFc L n s)
theorem Q3(W:World)(g:Nat)(a:Option Addr)(L:Nat->Int)(n cap m:Nat)(s:CSt)(h:RdF W g a L n cap s)(V:n<=1048576)(hk:s.1<=1000000000)(hm:m<=256):
 Cl 35 #[.pointer (some ⟨g,0,none⟩),.int .i64 m] W λe w'=>e=.returned (.int .i64 ((pkF L n m s).1:Nat))/\RdF w' g a L n cap (pkF L n m s).2/\Kc g W w':=by
 by_cases M:m<=1
 ·have i1:(m:Int)<=1:=Oo;have e:pkF L n m s=(0,s):=if_pos M;have HC:=hid h;clear h;rw[e];clear e;go_enter Tryz.func35,Tryz.ntmps35
  go_wp2;go_ret;exact⟨rfl,HC.out,Kc.refl _ _⟩
 ·have i1:¬((m:Int)<=1):=Oo;have i2:(m:Int)<=256:=Oo;have e:pkF L n m s=((byF L n s).1.toNat % m,(byF L n s).2):=if_neg M;have hb:=qBu h;have O:=hid (Jv W g a L n cap s h V hk);clear h;rw[e];clear e;obtain⟨z,U⟩:∃z:Nat,(byF L n s).1=(z:Int):=⟨(byF L n s).1.toNat,Oo⟩;rw[U]at O hb ⊢;generalize (byF L n s).2=s2 at *;clear U;rw[Int.toNat_natCast];go_enter Tryz.func35,Tryz.ntmps35
  go_wp2_with (first|(go_at_call 69;refine O.out.mono ?_;rintro e w1 ⟨rfl,I,K⟩))
  go_ret;refine⟨?_,I,K⟩;first|rfl|(rw[show((z % m:Nat):Int)=(z:Int) % (m:Int)by omega])
theorem RdrAt.below(h:RdrAt W g a n cap p sd)(hb:Bl W W'):RdrAt W' g a n cap p sd:=by
 have O:g < W.heap.size:=bL W ⟨g,0,none⟩ h.c0;have I:∀{b o:Nat} {v:Value},W.cell? ⟨b,o,none⟩=some v->W'.cell? ⟨b,o,none⟩=some v:=λ{b o v} I=>(hb.cell (p:=⟨b,o,none⟩) (bL W _ I)).trans I;have M:∀o,W'.frozen? ⟨g,o,none⟩=W.frozen? ⟨g,o,none⟩:=λo=>by unfold World.frozen?;rw[hb.block g O]
 refine⟨I h.c0,I h.c1,I h.c2,(M 1).trans h.f1,(M 2).trans h.f2,λj U=>?_,h.seed⟩;obtain⟨b,o,x,e,K,V,hr⟩:=h.bytes j U;exact⟨b,o,x,e,K,I V,hr⟩
theorem RdF.below{L:Nat->Int}{s:CSt}(h:RdF W g a L n cap s)(hb:Bl W W'):RdF W' g a L n cap s:=
 ⟨h.1.below hb,λj K b o e=>by
  have I:=h.2 j K b o e;exact(hb.cell (p:=⟨b,o+j,none⟩) (bL W _ I)).trans I⟩
theorem RdF.lt{L:Nat->Int}{s:CSt}(h:RdF W g a L n cap s):g < W.heap.size:=bL W ⟨g,0,none⟩ h.1.c0
theorem Kc.ofBelow(h:Bl w w'):Kc g w w':=⟨h.os,h.tape,h.output,h.size,λb hb _=>h.block b hb⟩
def qAj:List Int:=[1,2,3,-1,5,0,7,-4,1000000,-1000000,10]
def wtD(L:Nat->Int)(n:Nat)(s:CSt):Int:=qAj.getD (pkF L n 11 s).1 0
theorem qER:∀z:Nat,z < 11->(#[Value.int .i64 1,.int .i64 2,.int .i64 3,.int .i64 (-1),.int .i64 5,.int .i64 0,.int .i64 7,.int .i64 (-4),.int .i64 1000000,.int .i64 (-1000000),.int .i64 10])[z]?=some (.int .i64 (qAj.getD z 0))
 |0,_=>rfl
 |1,_=>rfl
 |2,_=>rfl
 |3,_=>rfl
 |4,_=>rfl
 |5,_=>rfl
 |6,_=>rfl
 |7,_=>rfl
 |8,_=>rfl
 |9,_=>rfl
 |10,_=>rfl
 |z+11,h=>Oo
theorem qFd(L:Nat->Int)(n:Nat)(s:CSt):-1000000<=wtD L n s/\wtD L n s<=1000000:=by
 unfold wtD;have I:(pkF L n 11 s).1 < 11:=by rcases QD (L:=L) (n:=n) (m:=11) (s:=s)with h|h <;> omega
 generalize (pkF L n 11 s).1=z at *;have:∀z:Fin 11,-1000000<=qAj.getD z.1 0/\qAj.getD z.1 0<=1000000:=Dd;exact this ⟨z,I⟩
theorem ZH(W:World)(g:Nat)(a:Option Addr)(L:Nat->Int)(n cap:Nat)(s:CSt)(h:RdF W g a L n cap s)(hn:n<=1048576)(hk:s.1<=1000000000):
 Cl 71 #[.pointer (some ⟨g,0,none⟩)] W λe w'=>e=.returned (.int .i64 (wtD L n s))/\RdF w' g a L n cap (pkF L n 11 s).2/\Kc g W w':=by
 obtain⟨K,I⟩:∃K,K=W.alloc (.cells #[.int .i64 1,.int .i64 2,.int .i64 3,.int .i64 (-1),.int .i64 5,.int .i64 0,.int .i64 7,.int .i64 (-4),.int .i64 1000000,.int .i64 (-1000000),.int .i64 10] 3):=⟨_,rfl⟩;have M:Bl W K:=by rw[I];exact(bM _ _).alloc (bK _) _
 have O:K.heap[W.heap.size]?=some (.cells #[.int .i64 1,.int .i64 2,.int .i64 3,.int .i64 (-1),.int .i64 5,.int .i64 0,.int .i64 7,.int .i64 (-4),.int .i64 1000000,.int .i64 (-1000000),.int .i64 10] 3 (0,0)):=by rw[I];exact heap_alloc_new _ _
 have hz:(pkF L n 11 s).1 < 11:=by rcases QD (L:=L) (n:=n) (m:=11) (s:=s)with h|h <;> omega
 have U:K.cell? ⟨W.heap.size,(pkF L n 11 s).1,none⟩=some (.int .i64 (wtD L n s)):=by
  rw[cell_of_row _ _ _ _ _ _ O];exact qER _ hz
 have V:W.heap.size≠g:=by have:=h.lt;omega
 have KP:=hid ((Q3 K g a L n cap 11 s (h.below M) hn hk Oo).mono (λe w' (h2:_/\_/\Kc g K w')=>And.intro h2.1 (And.intro (h2.2.2.cell V U) (And.intro h2.2.1 ((Kc.ofBelow M).trans h2.2.2)))));clear M O U V h;generalize wtD L n s=wt at *;generalize pkF L n 11 s=pz at *;obtain⟨z,s2⟩:=pz;have a3:z < 11:=hz;clear hz;have i1:(z:Int) < 11:=Oo;go_enter Tryz.func71,Tryz.ntmps71
 go_upto_region 2 with fail
 rw[<-I];clear I;go_wp2_with (first|(go_at_call 35;refine KP.out.mono ?_;rintro e w1 ⟨rfl,a2,hC,hK⟩;have HC:=hid (And.intro hC hK);clear hC hK)|fail)
 go_ret;exact⟨rfl,HC.out⟩
theorem J8(w:World)(vr:Value)(row:List Int)(wt:Int)(hr:IS w vr row)(f9:row.length<=1099511627776):
 Cl 70 #[.slice none 0 0,.slice none 0 0,vr,.int .i64 wt] w (qDc w [] [] [] row vr wt):=by
 obtain⟨i0,hi,d6,d7,d8⟩:=info_parts Tryz.infoRw;obtain⟨i1,d9,e0,e1,e2⟩:=info_parts Tryz.infoIw;have K:=hid (QF w (.slice none 0 0) vr [] row ⟨none,0,rfl,Or.inl rfl⟩ hr Ss (λj hj=>by simp at hj) f9);obtain⟨av,cv,rfl,-⟩:=hr;generalize row.length=rl at *;go_enter Tryz.func70,Tryz.ntmps70
 go_upto_region 2 with (first|(go_at_call 110;refine K.out.mono ?_;rintro e w1 ⟨k,there,rfl,hF,d,rfl⟩)|fail)
 have g2:k=0:=by have:=hF.1;simp at this;exact this
 subst g2
 have g4:there=false:=by
  cases there
  ·rfl
  ·have:=(hF.2.2.2.1 rfl).1;simp at this
 subst g4;have HF:=hid hF;have a3:Hid (Bl w (w.drewN d)):=hid (below_drewN (bM _ _) d);generalize w.drewN d=W1 at a3 ⊢;clear hF K;have b7:Hid (Bl w (W1.alloc (.cells #[] 25))):=hid (a3.out.alloc a3.out.size _);have e3:Hid ((W1.alloc (.cells #[] 25)).ownsRow w.heap.size 25 1 (.slice (some ⟨W1.heap.size,0,none⟩) 0 0) 0 []):=hid (oM W1 #[] 0 a3.out.size Dd rfl);have b9:Hid (∀W,Part W 1 (.slice none 0 0) 0 []):=hid λW=>Or.inl ⟨rfl,rfl,rfl⟩;go_upto_region 3 with (first|(at_builtin;refine qq _ rfl _ _ 24 rfl w.heap.size 25 i0 (.slice none 0 0) 1 24 Tryz.underlying24 hi d6 d7 d8 rfl Dd _ 0 [] rfl e3.out _ 0 [] rfl (b9.out _) (λu I=>by simp at I) (by unfold maxLen;omega) Oo b7.out.size ?_;intro v3 w3 a4 O)|fail)
 have a5:Hid (Bl w w3):=hid (b7.out.grown O b7.out.size (λq e=>(e3.out.lt q e).1));have e4:Hid (w3.ownsRow w.heap.size 25 1 v3 0 []):=hid (by simpa using a4);clear a4 O e3 b7 a3;have e8:Hid (Part (w3.alloc (.cells #[.slice av rl cv] 25)) 1 (.slice (some ⟨w3.heap.size,0,none⟩) 1 1) 1 [.slice av rl cv]):=hid (Or.inr ⟨_,_,rfl,rfl,zJ _ _ _⟩);go_upto_region 4 with (first|(at_builtin;refine qq _ rfl _ _ 24 rfl w.heap.size 25 i0 (.slice none 0 0) 1 24 Tryz.underlying24 hi d6 d7 d8 rfl Dd _ 0 [] rfl (e4.out.alloc _) _ 1 [.slice av rl cv] rfl e8.out (λu I=>by simp at I;subst I;rfl) (by unfold maxLen;omega) Oo (by have:=a5.out.size;simp;omega) ?_;intro v4 w4 a6 U)|fail)
 have c7:Hid (Bl w w4):=hid ((a5.out.alloc a5.out.size _).grown U (by have:=a5.out.size;simp;omega) (λq e=>(e4.out.lt q e).1));have e9:=hid a6;clear a6 U e4 a5 e8;have f4:(w4.alloc (.cells #[] 3)).ownsRow w.heap.size 3 1 (.slice (some ⟨w4.heap.size,0,none⟩) 0 0) 0 []:=oM w4 #[] 0 c7.out.size Dd rfl;have c8:Hid (Pt w (w4.alloc (.cells #[] 3)) v4 (.slice (some ⟨w4.heap.size,0,none⟩) 0 0) 1 0 [.slice av rl cv] []):=hid ⟨c7.out.alloc c7.out.size _,by simpa using e9.out.alloc _,f4⟩;clear f4 e9 c7;go_upto_region 5 with (first|(at_builtin;refine qq _ rfl _ _ 25 rfl w.heap.size 3 i1 (.int .i64 0) 1 8 Tryz.underlying25 d9 e0 e1 e2 rfl Dd _ 0 [] rfl c8.out.own2 _ 0 [] rfl (b9.out _) (λu I=>by simp at I) (by unfold maxLen;omega) Oo c8.out.bel.size ?_;intro v6 w6 a7 V)|fail)
 have M:=hid (c8.out.two a7 V);clear a7 V c8;have f7:Hid (Part (w6.alloc (.cells #[.int .i64 wt] 3)) 1 (.slice (some ⟨w6.heap.size,0,none⟩) 1 1) 1 [.int .i64 wt]):=hid (Or.inr ⟨_,_,rfl,rfl,zJ _ _ _⟩);go_upto_region 6 with (first|(at_builtin;refine qq _ rfl _ _ 25 rfl w.heap.size 3 i1 (.int .i64 0) 1 8 Tryz.underlying25 d9 e0 e1 e2 rfl Dd _ (0+0) ([]++[]) rfl (M.out.own2.alloc _) _ 1 [.int .i64 wt] rfl f7.out (λu I=>by simp at I;subst I;rfl) (by unfold maxLen;omega) Oo (by have:=M.out.bel.size;simp;omega) ?_;intro v7 w7 a8 a2)|fail)
 have f8:Hid (Pt w w7 v4 v7 1 1 [.slice av rl cv] [.int .i64 wt]):=hid (by
  have h1:Pt w (w6.alloc (.cells #[.int .i64 wt] 3)) v4 v6 1 (0+0) [.slice av rl cv] ([]++[]):=⟨M.out.bel.alloc M.out.bel.size _,M.out.own1.alloc _,M.out.own2.alloc _⟩;have h2:=h1.two a8 a2;simpa using h2)
 clear a8 a2 M f7;have a9:Hid (Pt w w7.drew v4 v7 1 1 [.slice av rl cv] [.int .i64 wt]):=hid f8.out.drew;clear f8;go_upto_region 8 with fail
 go_region_held_law (λW=>Bl w W)
  (first|exact e5.out.bel|exact b0.out.bel|exact a9.out.bel|exact e5.out.bel.drew|exact b0.out.bel.drew|exact a9.out.bel.drew|fail)
  (first
  |(refine zT _ (by rfl) _ _ 24 (by rfl) w.heap.size 25 i0 (.slice none 0 0) 1 24 Tryz.underlying24 hi d6 d7 d8 rfl Dd _ 1 [.slice av rl cv] (by rfl) a9.out.own1 _ 0 [] (by rfl) (b9.out _) (λu I=>by simp at I) (by unfold maxLen;omega) Oo a9.out.bel.size ?_;intro v8 w8 e6 c9;have b0:=hid (a9.out.one e6 c9))
  |(refine zT _ (by rfl) _ _ 25 (by rfl) w.heap.size 3 i1 (.int .i64 0) 1 8 Tryz.underlying25 d9 e0 e1 e2 rfl Dd _ 1 [.int .i64 wt] (by rfl) b0.out.own2 _ 0 [] (by rfl) (b9.out _) (λu I=>by simp at I) (by unfold maxLen;omega) Oo b0.out.bel.size ?_;intro v9 w9 e7 d0;have e5:=hid (b0.out.two e7 d0))
  |fail)
 all_goals go_wp2_with fail
 all_goals
  rename_i dd hh
  simp only[List.getElem_toArray,List.getElem_cons_succ,List.getElem_cons_zero,Option.some.injEq]at hh
  subst hh
  go_ret2
  refine⟨0,false,v8,v9,HF.out,rfl,?_⟩
  exact e5.out
theorem jZ(w:World)(va vb:Value)(la lb:List Int)(ha:IS w va la)(hb:IS w vb lb)(a8:la.length<=1099511627776)(a9:lb.length<=1099511627776):
 Cl 37 #[va,vb] w λe w'=>∃v,e=.returned v/\w'.ownsRow w.heap.size 3 1 v (plc (λi:Nat=>decide ((i:Int)∈la)||decide ((i:Int)∈lb)) 6).length ((plc (λi:Nat=>decide ((i:Int)∈la)||decide ((i:Int)∈lb)) 6).map (Value.int .i64))/\Bl w w':=by
 obtain⟨i0,hi,a3,a4,a5⟩:=info_parts Tryz.infoInt;obtain⟨p,hp⟩:∃p:Nat->Bool,p=λi:Nat=>decide ((i:Int)∈la)||decide ((i:Int)∈lb):=⟨_,rfl⟩;rw[<-hp];have HP:=hid hp;have HA:=hid ha;have HB:=hid hb;clear hp ha hb;go_enter Tryz.func37,Tryz.ntmps37
 go_wp2;go_loopw [5,6] (λv t wr=>∃k:Nat,k<=6/\t=.int .i64 k/\wr.ownsRow w.heap.size 3 1 v (plc p k).length ((plc p k).map (Value.int .i64))/\Bl w wr) (λ_ t _=>6 - (intOf t).toNat)
 case atStart=>exact⟨0,nZ _,rfl,oM w #[] 0 (bK _) Dd rfl,(bM _ _).alloc (bK _) _⟩
 case round=>
  obtain⟨k,hk,rfl,I,O⟩:=hrel;have b0:=xK p k;have a6:=O.size;by_cases b7:k < 6
  ·have i1:(k:Int) < 6:=Oo;have KA:=hid (qU wr va la (k:Int) (HA.out.below O) a8);have KB:=hid (qU wr vb lb (k:Int) (HB.out.below O) a9);have a7:p k=(decide ((k:Int)∈la)||decide ((k:Int)∈lb)):=by rw[HP.out]
   generalize decide ((k:Int)∈la)=b1 at *;generalize decide ((k:Int)∈lb)=b2 at *;have a2:=hid a7;clear a7;cases b1
   ·cases b2
    ·have e1:=hid (zy p k a2.out);go_wp2_with fail
     refine KA.out.mono ?_;rintro e w' ⟨rfl,V⟩;subst w';go_wp2_with fail
     refine KB.out.mono ?_;rintro e w' ⟨rfl,V⟩;subst w';go_wp2;go_roundw
     case rel=>exact⟨k+1,Oo,Gg,by rw[e1.out];exact I,O⟩
     case measure=>simp[intOf];omega
    ·have e1:=hid (xi p k a2.out);go_wp2_with fail
     refine KA.out.mono ?_;rintro e w' ⟨rfl,V⟩;subst w';go_wp2_with fail
     refine KB.out.mono ?_;rintro e w' ⟨rfl,V⟩;subst w'
     go_wp2_with (first
      |(at_builtin;refine wpList_append_own _ rfl _ _ 25 rfl w.heap.size 3 i0 (.int .i64 0) 1 8 Tryz.underlying25 hi a3 a4 a5 rfl Dd _ _ _ rfl (I.alloc _) ⟨wr.heap.size,0,none⟩ 1 1 [.int .i64 k] rfl rfl ?c1 ?c2 ?c3 ?c4 ?c5 ?_))
     case c1=>
      intro j u hj;match j,hj with
      |0,hj=>simp at hj;subst hj;simp[Addr.add]
     case c2=>intro u hu;simp at hu;subst hu;rfl
     case c3=>unfold maxLen;omega
     case c4=>omega
     case c5=>simp;omega
     intro v' w1 K M _;have hb:=yS a6 I O M
     have U:w1.ownsRow w.heap.size 3 1 v' (plc p (k+1)).length ((plc p (k+1)).map (Value.int .i64)):=by
      rw[e1.out];simpa using K
     clear K M I;go_wp2;go_roundw
     case rel=>exact⟨k+1,Oo,Gg,U,hb⟩
     case measure=>simp[intOf];omega
   ·have e1:=hid (xi p k (by rw[a2.out];rfl))
    go_wp2_with (first
     |(go_at_call 16;refine KA.out.mono ?_;rintro e w' ⟨rfl,V⟩;subst w')
     |(at_builtin;refine wpList_append_own _ rfl _ _ 25 rfl w.heap.size 3 i0 (.int .i64 0) 1 8 Tryz.underlying25 hi a3 a4 a5 rfl Dd _ _ _ rfl (I.alloc _) ⟨wr.heap.size,0,none⟩ 1 1 [.int .i64 k] rfl rfl ?d1 ?d2 ?d3 ?d4 ?d5 ?_))
    case d1=>
     intro j u hj;match j,hj with
     |0,hj=>simp at hj;subst hj;simp[Addr.add]
    case d2=>intro u hu;simp at hu;subst hu;rfl
    case d3=>unfold maxLen;omega
    case d4=>omega
    case d5=>simp;omega
    intro v' w1 K M _;have hb:=yS a6 I O M
    have U:w1.ownsRow w.heap.size 3 1 v' (plc p (k+1)).length ((plc p (k+1)).map (Value.int .i64)):=by
     rw[e1.out];simpa using K
    clear K M I;go_wp2;go_roundw
    case rel=>exact⟨k+1,Oo,Gg,U,hb⟩
    case measure=>simp[intOf];omega
  ·obtain rfl:k=6:=Oo;go_wp2;go_ret;exact⟨_,rfl,I,O⟩
end Go.Proofs.YtkaipapdlnojiaaGreat
