import Derived.Test.YtkaipapdlnojiaaGreatWq12
import Derived.Test.YtkaipapdlnojiaaGreatWq14
set_option maxHeartbeats 40000000
set_option maxRecDepth 1000000
namespace Go.Proofs.YtkaipapdlnojiaaGreat
open Go.RowKit
variable {B cap g i m n u:Nat}{I bar:Nat->Bool}{A C:Nat->Nat->Rat}{f:Nat->Rat}{w:World}
def zC:Value:=.agg #[.int .i64 0,.int .i64 0,.int .i64 0,.int .i64 0,.int .i64 0,.int .i64 0,.int .i64 0,.int .i64 0,.int .i64 0,.int .i64 0,.int .i64 0,.int .i64 0,.int .i64 0,.int .i64 0,.int .i64 0,.int .i64 0,.int .i64 0,.int .i64 0,.int .i64 0,.int .i64 0]
theorem QZ:zC.cells.size=20:=rfl
theorem Tryz.infoCs:(Tryz.prog.info? 108).map (λi=>(i.zero,i.size,i.bytes))=some (some zC,20,160):=by kernel_rfl
theorem qEB(a b:Nat)(v:Int)(w:World):(Instr.buildSlice 105 1 #[(0,.agg (qJ a b v).toArray)]).run Tryz.prog w=.ok (.slice (some ⟨w.heap.size,0,none⟩) 1 1) (w.alloc (.cells (qJ a b v).toArray 108)):=by kernel_rfl
theorem yX(a b:Nat)(v:Int):∀u∈qJ a b v,u.oneCell'=true:=by
 intro u I;unfold qJ zG at I;obtain⟨j,-,rfl⟩:=List.mem_map.1 I;rfl
theorem qx(a b:Nat)(v:Int):(qJ a b v).length=20:=vL _ _
def xm(u m n:Nat)(below:Bool):List (Nat×Nat×Int):=if below then [(n - m,n,1),(0,u,1)] else [(0,u,-1)]
def qw(u m n:Nat)(below:Bool)(k:Nat):List (Nat×Nat×Int):=xm u m n below++(List.range k).map λj=>(j,j+1,1)
def ze(l:List (Nat×Nat×Int)):List Value:=l.flatMap λt=>qJ t.1 t.2.1 t.2.2
theorem Zc(u m n:Nat)(below:Bool)(k:Nat):qw u m n below (k+1)=qw u m n below k++[(k,k+1,1)]:=by
 unfold qw;rw[List.range_succ,mA,<-List.append_assoc];rfl
theorem uO(u m n:Nat)(below:Bool)(k:Nat):(qw u m n below k).length=k+(if below then 2 else 1):=by
 unfold qw xm;cases below <;> simp
theorem YP(l:List (Nat×Nat×Int))(t:Nat×Nat×Int):ze (l++[t])=ze l++qJ t.1 t.2.1 t.2.2:=by
 unfold ze;rw[List.flatMap_append];simp
theorem Uh7(w:World)(xs:List Value)(t:TypeId):∀j u,xs[j]?=some u->(w.alloc (.cells xs.toArray t)).cell? ((⟨w.heap.size,0,none⟩:Addr).add j)=some u:=by
 have:=World.news_of_block (heap_alloc_new w (.cells xs.toArray t));simpa using this
theorem qCk(a b c d:Nat)(v v':Int):∃Z:Array Value,List.foldl (λ(cs:Array Value) (x:Value×Nat)=>cs.setIfInBounds x.snd x.fst) #[.int .i64 0,.int .i64 0,.int .i64 0,.int .i64 0,.int .i64 0,.int .i64 0,.int .i64 0,.int .i64 0,.int .i64 0,.int .i64 0,.int .i64 0,.int .i64 0,.int .i64 0,.int .i64 0,.int .i64 0,.int .i64 0,.int .i64 0,.int .i64 0,.int .i64 0,.int .i64 0,.int .i64 0,.int .i64 0,.int .i64 0,.int .i64 0,.int .i64 0,.int .i64 0,.int .i64 0,.int .i64 0,.int .i64 0,.int .i64 0,.int .i64 0,.int .i64 0,.int .i64 0,.int .i64 0,.int .i64 0,.int .i64 0,.int .i64 0,.int .i64 0,.int .i64 0,.int .i64 0] (qJ a b v).zipIdx=Z/\Z.size=40/\List.foldl (λ(cs:Array Value) (x:Value×Nat)=>cs.setIfInBounds (20+x.snd) x.fst) Z (qJ c d v').zipIdx=(qJ a b v++qJ c d v').toArray:=⟨_,rfl,by kernel_rfl,by kernel_rfl⟩
theorem qFK{op:Oper}{act:Act}{K:Act->World->Prop}{Q:Exit->Act->World->Prop}(x:Operand)(a b:Nat)(v:Int)(I:op.op=.buildSlice 105 1 #[(0,x)])(M:act.eval x=.agg (qJ a b v).toArray)
 (h:K (act.put op.dst (.slice (some ⟨w.heap.size,0,none⟩) 1 1)) (w.alloc (.cells (qJ a b v).toArray 108))):op.wp Tryz.prog act w K Q:=by
 have e:(#[(0,x)]:Array (Nat×Operand)).map (λp=>(p.1,act.eval p.2))=#[(0,.agg (qJ a b v).toArray)]:=by simp[M]
 unfold Oper.wp execOp;simp only[I,Sem.run_bind,Sem.run_pure];rw[e,qEB];exact h
theorem jt{ops:Array Oper}{rest:List Oper}{op:Oper}{act:Act}{Q:Exit->Act->World->Prop}(I:op.guard=none)(x:Operand)(a b:Nat)(v:Int)(K:op.op=.buildSlice 105 1 #[(0,x)])(M:act.eval x=.agg (qJ a b v).toArray)
 (h:wpList Tryz.prog ops Q rest (act.put op.dst (.slice (some ⟨w.heap.size,0,none⟩) 1 1)) (w.alloc (.cells (qJ a b v).toArray 108))):wpList Tryz.prog ops Q (op::rest) act w:=
 wpList_plain I λ_ O=>qFK x a b v K M (O _ _ h)
theorem qAR(w:World)(u m:Nat)(a:Option Addr)(cap:Nat)(hu:u<=7):
 Cl 54 #[.agg #[.int .i64 u,.slice a m cap,.bool false]] w λe w'=>∃v,e=.returned v/\w'.ownsRow w.heap.size 108 20 v (u+1) (ze (qw u m (u+m) false u))/\Bl w w':=by
 obtain⟨i0,hi,a4,a5,a6⟩:=info_parts Tryz.infoCs;have a7:Bl w (w.alloc (.cells #[.int .i64 u,.slice a m cap,.bool false] 68)):=(bM _ _).alloc (bK _) _;have a8:(w.alloc (.cells #[.int .i64 u,.slice a m cap,.bool false] 68)).cell? ⟨w.heap.size,0,none⟩=some (.int .i64 u):=by simp[go_sem]
 have a9:w.heap.size < (w.alloc (.cells #[.int .i64 u,.slice a m cap,.bool false] 68)).heap.size:=Ss;have HX:=hid (And.intro a7 (And.intro a8 a9));clear a7 a8 a9;go_enter Tryz.func54,Tryz.ntmps54
 go_wp2_with (first|(go_at_call 92;refine(xE _ 0 u (-1) Oo).mono ?_;rintro e w2 ⟨rfl,hb⟩)|(refine jt rfl _ 0 u (-1) rfl (by rfl) ?_)|(at_builtin;refine wpList_append_own _ rfl _ _ 105 rfl w.heap.size 108 i0 zC 20 160 Tryz.underlying105 hi a4 a5 a6 QZ Dd _ _ _ rfl (bG _ _ _ _) ⟨w2.heap.size,0,none⟩ 1 1 (qJ 0 u (-1)) rfl ?c0 ?c1 ?c2 ?c3 ?c4 ?c5 ?_))
 case c0=>rw[qx]
 case c1=>exact Uh7 w2 (qJ 0 u (-1)) 108
 case c2=>exact yX _ _ _
 case c3=>unfold maxLen;omega
 case c4=>omega
 case c5=>have:=hb.size;simp at this ⊢;omega
 intro v1 w3 K I _
 have b0:Bl w w3:=by
  have a2:Bl w w2:=bt HX.out.1 hb;exact(a2.alloc a2.size _).grown I (by have:=a2.size;simp;omega) (λj hj=>by cases hj)
 have O:w3.ownsRow w.heap.size 108 20 v1 1 (ze (qw u m (u+m) false 0)):=by
  have:ze (qw u m (u+m) false 0)=[]++qJ 0 u (-1):=by simp[ze,qw,xm]
  rw[this];exact K
 have c3:w3.cell? ⟨w.heap.size,0,none⟩=some (.int .i64 u):=by
  have h1:=HX.out.2.2;have h2:=hb.size;have e1:w3.heap[w.heap.size]?=w2.heap[w.heap.size]?:=(I.block _ (by simp at h1 h2 ⊢;omega) (by simp[Value.ownBlock])).trans (Below.heap_alloc _ _ _ Oo);exact(bF (w:=w2) (a:=⟨w.heap.size,0,none⟩) e1).trans ((hb.cell (p:=⟨w.heap.size,0,none⟩) h1).trans HX.out.2.1)
 clear K I hb HX;go_wp2;go_loopw [3,32] (λv t wr=>∃k:Nat,k<=u/\t=.int .i64 k/\wr.ownsRow w.heap.size 108 20 v (k+1) (ze (qw u m (u+m) false k))/\Bl w wr) (λ_ t _=>u - (intOf t).toNat)
 case atStart=>exact⟨0,nZ _,rfl,O,b0⟩
 case round=>
  clear c3 O b0;obtain⟨k,hk,rfl,K,V⟩:=hrel;have c7:=V.size;by_cases c8:k < u
  ·have i1:(k:Int) < (u:Int):=Oo;have HS:Hid (ze (qw u m (u+m) false (k+1))=ze (qw u m (u+m) false k)++qJ k (k+1) 1):=hid (by rw[Zc,YP]);have K1:Hid (∀W,Cl 92 #[.int .i64 (k:Nat),.int .i64 ((k:Int)+1),.int .i64 1] W λe w'=>e=.returned (.agg (qJ k (k+1) 1).toArray)/\Bl W w'):=hid (λW=>xE W k (k+1) 1 Oo);go_wp2_with (first|(go_at_call 92;refine(K1.out _).mono ?_;rintro e w2 ⟨rfl,hb⟩;have M:=qB K hb;have a3:=bt V hb;have b7:=a3.size)|(refine jt rfl _ k (k+1) 1 rfl (by rfl) ?_)|(at_builtin;refine wpList_append_own _ rfl _ _ 105 rfl w.heap.size 108 i0 zC 20 160 Tryz.underlying105 hi a4 a5 a6 QZ Dd _ _ _ rfl (M.alloc _) ⟨w2.heap.size,0,none⟩ 1 1 (qJ k (k+1) 1) rfl ?c0 ?c1 ?c2 ?c3 ?c4 ?c5 ?_))
   case c0=>rw[qx]
   case c1=>exact Uh7 w2 (qJ k (k+1) 1) 108
   case c2=>exact yX _ _ _
   case c3=>unfold maxLen;omega
   case c4=>omega
   case c5=>simp;omega
   intro v' w1 U I _;have b9:=qe b7 M a3 I;rw[<-HS.out]at U;clear I K M hb a3 V;go_wp2;go_roundw
   case rel=>exact⟨k+1,Oo,Gg,U,b9⟩
   case measure=>simp[intOf];omega
  ·obtain rfl:k=u:=Oo;have i1:¬((k:Int) < (k:Int)):=Oo;go_wp2;go_ret;exact⟨_,rfl,K,V⟩
theorem qBd(w:World)(u m:Nat)(a:Option Addr)(cap:Nat)(hu:u<=7)(hm:m<=6):
 Cl 54 #[.agg #[.int .i64 u,.slice a m cap,.bool true]] w λe w'=>∃v,e=.returned v/\w'.ownsRow w.heap.size 108 20 v (u+2) (ze (qw u m (u+m+m) true u))/\Bl w w':=by
 obtain⟨i0,hi,b9,c7,c8⟩:=info_parts Tryz.infoCs;have a2:Hid (∀wx,Cl 90 #[.agg #[.int .i64 u,.slice a m cap,.bool true]] wx λe w'=>e=.returned (.int .i64 ((u+m+m:Nat):Int))/\Bl wx w'):=hid (λwx=>kZ wx u a m cap true hu Oo);have a8:ArrAt (w.alloc (.cells #[.int .i64 u,.slice a m cap,.bool true] 68)) w.heap.size 3 (f3 (.int .i64 u) (.slice a m cap) (.bool true)):=qz w 3 (f3 (.int .i64 u) (.slice a m cap) (.bool true)) 68;have c9:Bl w (w.alloc (.cells #[.int .i64 u,.slice a m cap,.bool true] 68)):=(bM _ _).alloc (bK _) _;have d6:w.heap.size < (w.alloc (.cells #[.int .i64 u,.slice a m cap,.bool true] 68)).heap.size:=Ss;obtain⟨K,d7⟩:∃K:Nat,K=u+m+m:=⟨_,rfl⟩;rw[<-d7]at a2 ⊢;obtain⟨U,d8⟩:∃U:Nat,U=K - m:=⟨_,rfl⟩;have g4:K<=19:=Oo;have hle:(m:Int)<=(K:Int):=Oo;have d9:Hid ((K:Int) - (m:Int)=(U:Int)):=hid Oo;have e3:=hid d8;clear d7 d8;go_enter Tryz.func54,Tryz.ntmps54
 go_upto_region 3 with fail
 generalize w.alloc (.cells #[.int .i64 u,.slice a m cap,.bool true] 68)=W at *;obtain⟨e0,e1,e2⟩:=a8.three;go_cut [4] (λv wc=>v=.int .i64 U/\Bl w wc/\ArrAt wc w.heap.size 3 (f3 (.int .i64 u) (.slice a m cap) (.bool true)))
 case first=>
  go_region_law (first|(go_simp;go_at_call 90;refine(a2.out _).mono ?_;rintro e w' ⟨rfl,hb⟩;have r1:w'.cell? ⟨w.heap.size,1,none⟩=some (.slice a m cap):=(hb.cell (p:=⟨w.heap.size,1,none⟩) d6).trans e1))
  all_goals
   go_wp2_with fail
   go_meet
   exact⟨by rw[d9.out,wrap_small U (by have:=e3.out;omega)],bt c9 (qQ hb),a8.below Oo (qQ hb)⟩
 case rest=>
  obtain⟨rfl,e4,V⟩:=hcut;have e6:=hid V;obtain⟨d0,d1,d2⟩:=V.three;have e7:w.heap.size < wc.heap.size:=bL wc _ d0;have K1:Hid (∀W,Cl 92 #[.int .i64 (U:Nat),.int .i64 (K:Nat),.int .i64 1] W λe w'=>e=.returned (.agg (qJ U K 1).toArray)/\Bl W w'):=hid (λW=>xE W U K 1 Oo);have K2:Hid (∀W,Cl 92 #[.int .i64 0,.int .i64 (u:Nat),.int .i64 1] W λe w'=>e=.returned (.agg (qJ 0 u 1).toArray)/\Bl W w'):=hid (λW=>xE W 0 u 1 Oo);have e8:Bl wc wc.drew:=(bM _ _).drew;have L1:(qJ U K 1).length=20:=qx _ _ _;have L2:(qJ 0 u 1).length=20:=qx _ _ _;obtain⟨Z1,L3,L4⟩:=qCk U K 0 u 1 1;have L5:Z1.size=40:=L4.1;clear d6 c9 a8 e0 e1 e2;go_upto_region 4 with fail
  go_cut [3] (λv wx=>wx.ownsRow w.heap.size 108 20 v 2 (ze (qw u m K true 0))/\Bl w wx/\wx.cell? ⟨w.heap.size,0,none⟩=some (.int .i64 u))
  case first=>
   go_region_law (first
    |(refine step_append_lies _ (by rfl) _ _ _ (by rfl) w.heap.size 108 i0 zC 20 160 Tryz.underlying105 hi b9 c7 c8 QZ Dd (.slice none 0 0) 0 [] (by rfl) (bG _ _ _ _) ⟨_,0,none⟩ 2 2 (qJ U K 1++qJ 0 u 1) (by rfl) (by rw[lA,qx,qx]) (Uh7 _ (qJ U K 1++qJ 0 u 1) 108) (λx hx=>by rcases List.mem_append.1 hx with h|h;exact yX _ _ _ x h;exact yX _ _ _ x h) Dd (by unfold maxLen;omega) Oo (by have:=M.size;simp at this ⊢;omega) _ rfl ?_;intro g3 cp3 w4 a9 I g5 g6)
    |(go_simp;go_at_call 90;with_reducible refine(a2.out _).mono ?_;rintro e w1 ⟨rfl,e9⟩;have M:Bl wc w1:=bt (by assumption) e9;have a3:=V.below Oo M;obtain⟨g0,g1,g2⟩:=a3.three)
    |(go_simp;go_at_call 92;with_reducible refine(K1.out _).mono ?_;rintro e w2 ⟨rfl,f4⟩;have M:Bl wc w2:=bt (by assumption) f4;have a3:=V.below Oo M;obtain⟨g0,g1,g2⟩:=a3.three)
    |(go_simp;go_at_call 92;with_reducible refine(K2.out _).mono ?_;rintro e w3 ⟨rfl,f7⟩;have M:Bl wc w3:=bt (by assumption) f7;have a3:=V.below Oo M;obtain⟨g0,g1,g2⟩:=a3.three))
   all_goals
    go_wp2_with fail
    go_meet
    have b0:Bl w _:=bt e4 M
    refine⟨?_,(b0.alloc b0.size _).grown I (by have:=b0.size;simp;omega) (λj hj=>by cases hj),?_⟩
    ·have:ze (qw u m K true 0)=[]++(qJ U K 1++qJ 0 u 1):=by simp[ze,qw,xm,e3.out]
     rw[this];exact a9
    ·exact(bF (a:=⟨w.heap.size,0,none⟩) ((I.block _ (by have:=M.size;show w.heap.size < _;simp;omega) (by simp[Value.ownBlock])).trans (Below.heap_alloc _ _ _ (by have:=M.size;show w.heap.size < _;omega)))).trans g0
  case rest=>
   obtain⟨a4,e5,c3⟩:=hcut;clear e6 d0 d1 d2 e7 e8 K1 K2 e4 V;go_wp2;go_loopw [3,32] (λv t wr=>∃k:Nat,k<=u/\t=.int .i64 k/\wr.ownsRow w.heap.size 108 20 v (k+2) (ze (qw u m K true k))/\Bl w wr) (λ_ t _=>u - (intOf t).toNat)
   case atStart=>exact⟨0,nZ _,rfl,a4,e5⟩
   case round=>
    clear c3 a4 e5;obtain⟨k,hk,rfl,a5,a7⟩:=hrel;have g7:=a7.size;by_cases g8:k < u
    ·have i1:(k:Int) < (u:Int):=Oo;have HS:Hid (ze (qw u m K true (k+1))=ze (qw u m K true k)++qJ k (k+1) 1):=hid (by rw[Zc,YP]);have K1:Hid (∀W,Cl 92 #[.int .i64 (k:Nat),.int .i64 ((k:Int)+1),.int .i64 1] W λe w'=>e=.returned (.agg (qJ k (k+1) 1).toArray)/\Bl W w'):=hid (λW=>xE W k (k+1) 1 Oo);go_wp2_with (first|(go_at_call 92;refine(K1.out _).mono ?_;rintro e w2 ⟨rfl,hb⟩;have O:=qB a5 hb;have b7:=bt a7 hb;have f8:=b7.size)|(refine jt rfl _ k (k+1) 1 rfl (by rfl) ?_)|(at_builtin;refine wpList_append_own _ rfl _ _ 105 rfl w.heap.size 108 i0 zC 20 160 Tryz.underlying105 hi b9 c7 c8 QZ Dd _ _ _ rfl (O.alloc _) ⟨w2.heap.size,0,none⟩ 1 1 (qJ k (k+1) 1) rfl ?c0 ?c1 ?c2 ?c3 ?c4 ?c5 ?_))
     case c0=>rw[qx]
     case c1=>exact Uh7 w2 (qJ k (k+1) 1) 108
     case c2=>exact yX _ _ _
     case c3=>unfold maxLen;omega
     case c4=>omega
     case c5=>simp;omega
     intro v' w1 a6 I _;have f9:=qe f8 O b7 I;rw[<-HS.out]at a6;clear I a5 O hb b7 a7;go_wp2;go_roundw
     case rel=>exact⟨k+1,Oo,Gg,a6,f9⟩
     case measure=>simp[intOf];omega
    ·obtain rfl:k=u:=Oo;have i1:¬((k:Int) < (k:Int)):=Oo;go_wp2;go_ret;exact⟨_,rfl,a5,a7⟩
theorem Tryz.infoFr:(Tryz.prog.info? 66).map (λi=>(i.zero,i.size,i.bytes))=some (some (.agg #[.int .i64 0,.int .i64 0]),2,16):=by kernel_rfl
def yz(C:Nat->Nat->Rat)(B:Nat->Nat)(n:Nat):Nat->Nat->Rat
 |0,_=>0
 |i+1,j=>if B i=j then C i n else yz C B n i j
structure FrAt(w:World)(g u:Nat)(f:Nat->Rat):Prop where
 num:∀j,j < u->w.cell? ⟨g,j*2,none⟩=some (.int .i64 (f j).num)
 den:∀j,j < u->w.cell? ⟨g,j*2+1,none⟩=some (.int .i64 (f j).den)
 free:∀q,q < u*2->w.frozen? ⟨g,q,none⟩=false
theorem FrAt.set(h:FrAt w g u f)(hi:i < u)(q:Rat):
 FrAt ((w.setCell ⟨g,i*2,none⟩ (.int .i64 q.num)).setCell ⟨g,i*2+1,none⟩ (.int .i64 q.den)) g u (λj=>if i=j then q else f j) where
 num j hj:=by
  show _=some (Value.int .i64 (if i=j then q else f j).num);by_cases e:i=j
  ·subst e;rw[if_pos rfl,bD _ _ _ _ (by intro e;simp only[Addr.mk.injEq]at e;omega)];exact bI _ _ _ (h.num i hi)
  ·rw[if_neg e,bD _ _ _ _ (by intro e;simp only[Addr.mk.injEq]at e;omega),bD _ _ _ _ (by intro e;simp only[Addr.mk.injEq]at e;omega)];exact h.num j hj
 den j hj:=by
  show _=some (Value.int .i64 ((if i=j then q else f j).den:Nat));by_cases e:i=j
  ·subst e;rw[if_pos rfl];refine bI _ _ _ (u:=.int .i64 (f i).den) ?_;rw[bD _ _ _ _ (by intro e;simp only[Addr.mk.injEq]at e;omega)];exact h.den i hi
  ·rw[if_neg e,bD _ _ _ _ (by intro e;simp only[Addr.mk.injEq]at e;omega),bD _ _ _ _ (by intro e;simp only[Addr.mk.injEq]at e;omega)];exact h.den j hj
 free q hq:=by rw[fS,fS];exact h.free q hq
theorem FrAt.drew(h:FrAt w g u f):FrAt w.drew g u f:=⟨h.num,h.den,h.free⟩
theorem qF5(n:Nat)(j:Nat)(h:j < n*2):(madeCells #[Value.int .i64 0,.int .i64 0] (n*2)).toList[j]?=some (.int .i64 0):=by
 rw[Array.getElem?_toList];simp only[madeCells];rw[Array.getElem?_map,Array.getElem?_range,if_pos h];rcases Nat.mod_two_eq_zero_or_one j with e|e
 ·simp[e]
 ·simp[e]
theorem UM(w:World)(k m n u:Nat)(C:Nat->Nat->Rat)(B:Nat->Nat)(bar:Nat->Bool)(h:SxAt w k m n C B bar)(hu:u<=1000)(d7:u<=n):
 Cl 56 #[.pointer (some ⟨k,0,none⟩),.int .i64 u] w λe w'=>e=.returned (.slice (some ⟨w.heap.size,0,none⟩) u u)/\FrAt w' w.heap.size u (yz C B n m)/\w.heap.size < w'.heap.size/\Bl w w':=by
 obtain⟨i0,hi,b7,b9,c7⟩:=info_parts Tryz.infoFr;have d8:=h.lay.mle;have d6:=h.lay.nle;have HS:=hid h;have d9:=h.lt;clear h;go_enter Tryz.func56,Tryz.ntmps56
 go_wp2_with (at_make;refine wpList_make_full _ rfl _ _ 64 rfl w.heap.size 66 i0 (.agg #[.int .i64 0,.int .i64 0]) 2 Tryz.underlying64 hi b7 b9 _ _ _ _ u rfl rfl rfl rfl ?b2 ?b3 (bK _) ?_)
 case b2=>rw[c7];omega
 case b3=>unfold maxLen;omega
 intro w0 M a4;have a9:Bl w w0:=(bM _ _).grown a4 (bK _) (λj hj=>by cases hj);have a7:w.heap.size < w0.heap.size:=(M.lt _ rfl).2
 have b0:(∀q,q < u*2->w0.cell? ⟨w.heap.size,q,none⟩=some (.int .i64 0))/\∀q,w0.frozen? ⟨w.heap.size,q,none⟩=false:=
  ⟨λq hq=>by rw[M.cellAt q hq];exact qF5 u q hq,λq=>M.frozenAt q⟩
 have a5:=hid (And.intro a9 (And.intro a7 b0));clear M a4 a9 a7 b0;go_wp2;go_loopw [12] (λt wr=>∃j:Nat,j<=u/\t=.int .i64 j/\Hid (Bl w wr/\w.heap.size < wr.heap.size/\(∀q,q < u*2->∃z,wr.cell? ⟨w.heap.size,q,none⟩=some (.int .i64 z))/\(∀q,wr.frozen? ⟨w.heap.size,q,none⟩=false)/\∀i,i < j->wr.cell? ⟨w.heap.size,i*2,none⟩=some (.int .i64 0)/\wr.cell? ⟨w.heap.size,i*2+1,none⟩=some (.int .i64 1))) (λt _=>u - (intOf t).toNat)
 case atStart=>exact⟨0,nZ _,rfl,hid ⟨a5.out.1,a5.out.2.1,λq hq=>⟨0,a5.out.2.2.1 q hq⟩,a5.out.2.2.2,λi hi=>Oo⟩⟩
 case round=>
  clear a5;obtain⟨j,hj,rfl,hH⟩:=hrel;obtain⟨K,O,a8,V,U⟩:=hH.out;by_cases e0:j < u
  ·have i1:(j:Int) < (u:Int):=Oo;have HX:=hid hH.out;clear hH K a8 V U;go_wp2_with fail
   refine(xg 0 _).mono ?_;rintro e w2 ⟨rfl,hb⟩;obtain⟨z0,d0⟩:=HX.out.2.2.1 (j*2) Oo;obtain⟨z1,d1⟩:=HX.out.2.2.1 (j*2+1) Oo;have c0:=(hb.cell (p:=⟨w.heap.size,j*2,none⟩) O).trans d0;have c1:=(hb.cell (p:=⟨w.heap.size,j*2+1,none⟩) O).trans d1;have f0:=(hb.frozen (p:=⟨w.heap.size,j*2,none⟩) O).trans (HX.out.2.2.2.1 (j*2));have f1:=(hb.frozen (p:=⟨w.heap.size,j*2+1,none⟩) O).trans (HX.out.2.2.2.1 (j*2+1));have HB:=hid hb;have e3:=hb.size;clear hb d0 d1;go_wp2;go_roundw
   case rel=>
    have ne:∀(X:World) (a b:Nat) (v:Value),a≠b->(X.setCell ⟨w.heap.size,b,none⟩ v).cell? ⟨w.heap.size,a,none⟩=X.cell? ⟨w.heap.size,a,none⟩:=λX a b v e4=>bD _ _ _ _ (by intro e2;simp only[Addr.mk.injEq]at e2;omega);refine⟨j+1,Oo,Gg,hid ⟨((bt HX.out.1 HB.out).setCell (bK _) _).setCell (bK _) _,by simp[World.setCell];omega,λq hq=>?_,λq=>by rw[fS,fS];exact(HB.out.frozen (p:=⟨w.heap.size,q,none⟩) O).trans (HX.out.2.2.2.1 q),λi hi=>?_⟩⟩
    ·obtain⟨z,hz⟩:=HX.out.2.2.1 q hq;have c8:=(HB.out.cell (p:=⟨w.heap.size,q,none⟩) O).trans hz;by_cases e1:q=j*2+1
     ·subst e1;exact⟨_,bI _ _ _ ((ne _ _ _ _ Oo).trans c1)⟩
     ·by_cases e2:q=j*2
      ·subst e2;exact⟨_,(ne _ _ _ _ Oo).trans (bI _ _ _ c0)⟩
      ·exact⟨z,(ne _ _ _ _ e1).trans ((ne _ _ _ _ e2).trans c8)⟩
    ·by_cases e:i=j
     ·subst e;exact⟨(ne _ _ _ _ Oo).trans (bI _ _ _ c0),bI _ _ _ ((ne _ _ _ _ Oo).trans c1)⟩
     ·obtain⟨h1,h2⟩:=HX.out.2.2.2.2 i Oo;exact⟨(ne _ _ _ _ Oo).trans ((ne _ _ _ _ Oo).trans ((HB.out.cell (p:=⟨w.heap.size,i*2,none⟩) O).trans h1)),(ne _ _ _ _ Oo).trans ((ne _ _ _ _ Oo).trans ((HB.out.cell (p:=⟨w.heap.size,i*2+1,none⟩) O).trans h2))⟩
   case measure=>simp[intOf];omega
  ·obtain rfl:j=u:=Oo;have i1:¬((j:Int) < (j:Int)):=Oo;have a2:=HS.out.below K;have c0:wr.cell? ⟨k,0,none⟩=some (.int .i64 m):=a2.lay.rows;have I:Hid (FrAt wr w.heap.size j (yz C B n 0)):=hid ⟨λi hi=>(U i hi).1,λi hi=>(U i hi).2,λq _=>V q⟩;have a3:=hid K;clear hH K a8 V U a2;go_wp2;go_loopw [24] (λt wr=>∃i:Nat,i<=m/\t=.int .i64 i/\w.heap.size < wr.heap.size/\Hid (Bl w wr/\FrAt wr w.heap.size j (yz C B n i))) (λt _=>m - (intOf t).toNat)
   case atStart=>exact⟨0,nZ _,rfl,O,hid ⟨a3.out,I.out⟩⟩
   case round=>
    clear a3 I;obtain⟨i,e5,rfl,a6,hH⟩:=hrel;obtain⟨K,V⟩:=hH.out;by_cases c9:i < m
    ·have i2:(i:Int) < (m:Int):=Oo;have i8:(i:Int) < 8:=Oo;have e6:(n:Int) < 20:=Oo;have a2:=HS.out.below K;have b1:wr.cell? ⟨k,322+i,none⟩=some (.int .i64 (B i:Nat)):=a2.lay.bas i c9;have b2:wr.cell? ⟨k,1,none⟩=some (.int .i64 n):=a2.lay.cols;have b3:wr.cell? ⟨k,2+i*40+n*2,none⟩=some (.int .i64 (C i n).num):=a2.lay.num i n Oo (bK _);have b4:wr.cell? ⟨k,2+i*40+n*2+1,none⟩=some (.int .i64 (C i n).den):=a2.lay.den i n Oo (bK _);have I:=hid V;have a3:=hid K;clear hH K V a2;by_cases hB:B i < j
     ·have i3:(B i:Int) < (j:Int):=Oo;have c1:=I.out.num (B i) hB;have c2:=I.out.den (B i) hB;have f1:=I.out.free (B i*2) Oo;have f2:=I.out.free (B i*2+1) Oo;go_wp2_with fail
      go_region
      go_wp2;go_roundw
      case rel=>exact⟨i+1,Oo,Gg,by simpa[World.setCell]using a6,hid ⟨((a3.out.setCell (bK _) _).setCell (bK _) _).drew,FrAt.drew (I.out.set hB (C i n))⟩⟩
      case measure=>simp[intOf];omega
     ·have i3:¬((B i:Int) < (j:Int)):=Oo;go_wp2;go_roundw
      case rel=>exact⟨i+1,Oo,Gg,a6,hid ⟨a3.out,⟨λq hq=>by rw[show yz C B n (i+1) q=yz C B n i q from if_neg Oo];exact I.out.num q hq,λq hq=>by rw[show yz C B n (i+1) q=yz C B n i q from if_neg Oo];exact I.out.den q hq,I.out.free⟩⟩⟩
      case measure=>simp[intOf];omega
    ·obtain rfl:i=m:=Oo;have i2:¬((i:Int) < (i:Int)):=Oo;have I:=hid V;have a3:=hid K;clear hH K V;go_wp2;go_ret;exact⟨rfl,I.out,a6,a3.out⟩
def inc(L:List (List Nat))(r e:Nat):Rat:=if e∈L.getD r [] then 1 else 0
theorem ko(l:List Nat)(x:Nat):(l.contains x=true)=(x∈l):=Ss
theorem Jo(u:Nat)(L:List (List Nat))(i j:Nat)(hi:i < L.length)(O:j<=u+L.length):xG u L false i j=Cov.packA L.length u (inc L) j i:=by
 unfold xG Cov.packA inc;simp only[Bool.false_eq_true,if_false,ko,false_and];rw[if_pos hi];by_cases K:j=u+L.length
 ·rw[if_pos K,if_neg Oo,if_neg Oo]
 ·rw[if_neg K];by_cases I:j < u
  ·rw[if_pos I,if_pos I]
  ·rw[if_neg I,if_neg I,if_pos (show j < u+L.length by omega)];by_cases M:j - u=i
   ·rw[if_pos M,if_pos Oo]
   ·rw[if_neg M,if_neg Oo]
theorem UF(u:Nat)(L:List (List Nat))(i j:Nat)(hi:i < L.length)(U:j<=u+L.length+L.length):xG u L true i j=Cov.coverA L.length u (inc L) j i:=by
 unfold xG Cov.coverA inc;simp only[if_true,ko,true_and];rw[if_pos hi];by_cases M:j=u+L.length+L.length
 ·rw[if_pos M,if_neg Oo,if_neg Oo,if_neg Oo]
 ·rw[if_neg M];by_cases K:j < u
  ·rw[if_pos K,if_pos K]
  ·rw[if_neg K,if_neg K];by_cases O:j < u+L.length
   ·rw[if_pos O,if_neg Oo];by_cases I:j - u=i
    ·rw[if_pos I,if_pos Oo]
    ·rw[if_neg I,if_neg Oo]
   ·rw[if_neg O,if_pos (show j < u+L.length+L.length by omega)];by_cases I:j - u - L.length=i
    ·rw[if_pos I,if_pos Oo]
    ·rw[if_neg I,if_neg Oo,if_neg Oo]
theorem YX{m n:Nat}:∀{l:List (Nat->Rat)} {c:Nat->Rat} {bar b1 I:Nat->Bool} {s K s':Cov.Sx},Cov.Aims m n l bar s b1 K->Cov.Aim m n c b1 K I s'->Cov.Aims m n (l++[c]) bar s I s'
 |[],_,_,_,_,_,_,_,h,h2=>by
  obtain⟨rfl,rfl⟩:=h;exact⟨_,_,h2,rfl,rfl⟩
 |_::_,_,_,_,_,_,_,_,h,h2=>by
  obtain⟨b,s,M,O⟩:=h;exact⟨b,s,M,YX O h2⟩
theorem qCq{cost:Nat->Rat}{s s':Cov.Sx}(h:Cov.Good m n A bar s)(M:Cov.Aim m n cost bar s I s'):Cov.Good m n A I s'/\Cov.Good m n A bar s':=by
 obtain⟨k,V,_,O,U⟩:=M;have K:Cov.Good m n A bar s':=by rw[O];exact h.it k
 refine⟨⟨K.inv,K.feas,λi hi=>?_⟩,K⟩;rw[U];unfold Cov.narrowed;rw[K.open' i hi,K.inv.red_basic cost hi];simp
theorem UG(a b:Nat)(v:Int):rc (zg a b v)=Cov.cf a b ((v:Int):Rat):=by
 funext j;unfold rc zg Cov.cf;split <;> rfl
def jz(l:List (Nat×Nat×Int)):List (Nat->Rat):=l.map λt=>rc (zg t.1 t.2.1 t.2.2)
theorem qBg(u m n:Nat):jz (qw u m n false u)=Cov.cf 0 u (-1)::Cov.units u:=by
 unfold jz qw xm Cov.units;simp only[Bool.false_eq_true,if_false,List.map_cons,List.map_map,List.cons_append,List.nil_append,UG];congr 1
theorem qAZ(u m:Nat):jz (qw u m (u+m+m) true u)=Cov.cf (u+m) (u+m+m) 1::Cov.cf 0 u 1::Cov.units u:=by
 unfold jz qw xm Cov.units;simp only[if_true,List.map_cons,List.map_map,List.cons_append,List.nil_append,UG];rw[show u+m+m - m=u+m by omega];congr 1
theorem YY(a b:Nat)(v:Int)(hv:v.natAbs<=1)(j:Nat):(zg a b v j).natAbs<=1:=by
 unfold zg;split
 ·exact hv
 ·simp
theorem qBh(u m n:Nat)(below:Bool)(k:Nat):∀t∈qw u m n below k,t.2.2.natAbs<=1:=by
 intro t I;unfold qw xm at I;rcases List.mem_append.1 I with h|h
 ·cases below
  ·simp at h;subst h;simp
  ·simp at h;rcases h with rfl|rfl <;> simp
 ·obtain⟨j,-,rfl⟩:=List.mem_map.1 h;simp
theorem ZB{C:Nat->Nat->Rat}{B:Nat->Nat}{n:Nat}:∀{m:Nat},(∀i,i < m->∀k,k < m->B i=B k->i=k)->∀j,yz C B n m j=Cov.val m (λi=>C i n) B j
 |0,_,_=>rfl
 |m+1,hB,j=>by
  have I:=ZB (C:=C) (B:=B) (n:=n) (m:=m) (λi hi k O e=>hB i Oo k Oo e) j;show(if B m=j then C m n else yz C B n m j)=Cov.sm m (λi=>if B i=j then C i n else 0)+(if B m=j then C m n else 0);rw[I];unfold Cov.val;by_cases e:B m=j
  ·have K:Cov.sm m (λi=>if B i=j then C i n else 0)=0:=Cov.sm_zero (λi hi=>if_neg (λM=>by
    have:=hB i Oo m Oo (M.trans e.symm);omega))
   simp only[K,if_pos e];grind
  ·simp only[if_neg e];grind
theorem YZ(L:List (List Nat))(r e:Nat):Cov.Whole 1 (inc L r e):=by
 unfold inc;split
 ·exact⟨1,rfl,Dd⟩
 ·exact⟨0,rfl,Dd⟩
theorem Zm(m u:Nat)(L:List (List Nat))(j r:Nat):Cov.Whole 1 (Cov.packA m u (inc L) j r):=by
 unfold Cov.packA;repeat' split
 ·exact YZ L r j
 ·exact⟨1,rfl,Dd⟩
 ·exact⟨0,rfl,Dd⟩
 ·exact⟨1,rfl,Dd⟩
theorem jO(m u:Nat)(L:List (List Nat))(j r:Nat):Cov.Whole 1 (Cov.coverA m u (inc L) j r):=by
 unfold Cov.coverA;repeat' split
 ·exact YZ L r j
 ·exact⟨-1,rfl,Dd⟩
 ·exact⟨0,rfl,Dd⟩
 ·exact⟨1,rfl,Dd⟩
 ·exact⟨0,rfl,Dd⟩
 ·exact⟨1,rfl,Dd⟩
theorem qAw(w:World)(u m n:Nat)(a:Option Addr)(cap:Nat)(below:Bool)(I:u<=7)(hb:below=true->m<=6)(K:n=if below then u+m+m else u+m):
 Cl 54 #[.agg #[.int .i64 u,.slice a m cap,.bool below]] w λe w'=>∃v,e=.returned v/\w'.ownsRow w.heap.size 108 20 v (qw u m n below u).length (ze (qw u m n below u))/\Bl w w':=by
 rw[uO];cases below
 ·have:=qAR w u m a cap I;rw[K];exact this
 ·have:=qBd w u m a cap I (hb rfl);rw[K];exact this
theorem Uy:∀(l:List (Nat×Nat×Int)) (i j:Nat),i < l.length->j < 20->(ze l)[i*20+j]?=(qJ (l.getD i (0,0,0)).1 (l.getD i (0,0,0)).2.1 (l.getD i (0,0,0)).2.2)[j]?
 |[],i,_,h,_=>by simp at h
 |t::l,0,j,_,hj=>by
  show(qJ t.1 t.2.1 t.2.2++ze l)[0*20+j]?=(qJ t.1 t.2.1 t.2.2)[j]?;rw[aL (by rw[qx];omega),show 0*20+j=j by omega]
 |t::l,i+1,j,h,hj=>by
  show(qJ t.1 t.2.1 t.2.2++ze l)[(i+1)*20+j]?=_;rw[bX (by rw[qx];omega),qx,show(i+1)*20+j - 20=i*20+j by omega];exact Uy l i j (by simpa using h) hj
theorem qEm{l:List (Nat×Nat×Int)}(h:w.ownsRow B 108 20 (.slice (some ⟨g,0,none⟩) l.length cap) l.length (ze l))(hi:i < l.length):
 w.rangeAt g (i*20) (qJ (l.getD i (0,0,0)).1 (l.getD i (0,0,0)).2.1 (l.getD i (0,0,0)).2.2):=by
 rcases h.2 with ⟨I,_⟩|⟨g',O,cur,hv,-,U,-,-,-,V⟩
 ·cases I
 ·simp only[Value.slice.injEq,Option.some.injEq,Addr.mk.injEq]at hv;obtain⟨⟨rfl,-⟩,-,-⟩:=hv;intro j v M
  have K:j < 20:=by
   rcases Nat.lt_or_ge j 20 with I|I
   ·exact I
   ·rw[gN (by rw[qx];exact I)]at M;cases M
  rw[cell_of_row _ _ _ _ _ _ U,<-Array.getElem?_toList];have:=Uy l i j hi K;rw[<-V,List.getElem?_take_of_lt Oo]at this;rw[this];exact M
structure LS(w wr:World)(k g cap u m n:Nat)(A:Nat->Nat->Rat)(l:List (Nat×Nat×Int))(F:Nat->Value)(s0:Cov.Sx)(i:Nat)(bar:Nat->Bool)(s:Cov.Sx)(C:Nat->Nat->Rat):Prop where
 aims:Cov.Aims m n (jz (l.take i)) (λ_=>false) s0 bar s
 good:Cov.Good m n A bar s
 sx:SxAt wr k m n C s.B bar
 rows:∀a,a < m->∀j,j<=n->C a j=s.T a j
 last:∀j,j<=n->Sm 41000 (C m j)
 bel:Bl w wr
 own:wr.ownsRow (k+1) 108 20 (.slice (some ⟨g,0,none⟩) l.length cap) l.length (ze l)
 arg:ArrAt wr w.heap.size 3 F
theorem qCF(l:List (Nat×Nat×Int))(i:Nat)(h:i < l.length):jz (l.take (i+1))=jz (l.take i)++[rc (zg (l.getD i (0,0,0)).1 (l.getD i (0,0,0)).2.1 (l.getD i (0,0,0)).2.2)]:=by
 unfold jz;rw[tA,bC h,gD,bC h];simp only[Option.toList_some,List.map_append,List.map_cons,List.map_nil,Option.getD_some]
theorem qFp{s:Nat}{e:TypeId}{xs:List Value}(h:w.ownsRow B e s (.slice (some ⟨g,0,none⟩) n cap) n xs):B<=g/\g < w.heap.size:=h.lt g rfl
theorem LS.step{wr wx w':World}{k:Nat}{l:List (Nat×Nat×Int)}{F:Nat->Value}{s0:Cov.Sx}{s s':Cov.Sx}
 (h:LS w wr k g cap u m n A l F s0 i bar s C) (hi:i < l.length) (hm:m<=7) (hW:∀j,j<=n->∀r,r < m->Cov.Whole 1 (A j r)) (O:∀t∈l,t.2.2.natAbs<=1) (hk:w.heap.size < k) (V:Bl wr wx) (hK:Kb k wx w')
 (ha:Cov.Aim m n (rc (zg (l.getD i (0,0,0)).1 (l.getD i (0,0,0)).2.1 (l.getD i (0,0,0)).2.2)) bar s I s')
 (hs:SxAt w' k m n (full m (zg (l.getD i (0,0,0)).1 (l.getD i (0,0,0)).2.1 (l.getD i (0,0,0)).2.2) s') s'.B I):
 LS w w' k g cap u m n A l F s0 (i+1) I s' (full m (zg (l.getD i (0,0,0)).1 (l.getD i (0,0,0)).2.1 (l.getD i (0,0,0)).2.2) s'):=by
 have U:l.getD i (0,0,0)∈l:=by
  rw[gD,bC hi];exact gM _
 have hg:=qCq h.good ha;have a2:=uG hg.1.inv hW hm (zg (l.getD i (0,0,0)).1 (l.getD i (0,0,0)).2.1 (l.getD i (0,0,0)).2.2) (YY _ _ _ (O _ U));have M:=qB h.own V;have a3:=qFp M;have K:=h.arg.below Oo V;refine⟨?_,hg.1,hs,λa a4 j _=>?_,λj hj=>?_,?_,?_,?_⟩
 ·rw[qCF l i hi];exact YX h.aims ha
 ·unfold full;rw[if_neg Oo]
 ·unfold full;rw[if_pos rfl];exact a2.2 j hj m (bK _)
 ·exact Below.trans (bt h.bel V) (hK.below (bt h.bel V).size Oo)
 ·exact qA M (λb hb=>by
   simp only[Value.ownBlock,Option.some.injEq]at hb;subst hb;exact hK.block g a3.2 Oo)
 ·exact K.move (hK.block _ (K.lt Oo) Oo)
end Go.Proofs.YtkaipapdlnojiaaGreat
