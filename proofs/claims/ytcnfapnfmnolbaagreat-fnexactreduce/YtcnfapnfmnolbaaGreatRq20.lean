import Derived.Test.YtcnfapnfmnolbaaGreatRq09
import Derived.Test.YtcnfapnfmnolbaaGreatRq19
set_option maxHeartbeats 40000000
set_option maxRecDepth 1000000
namespace Go.Proofs.YtcnfapnfmnolbaaGreat
open Go.RowKit
variable {B cap g i m n u:Nat}{I bar:Nat->Bool}{A C:Nat->Nat->Rat}{f:Nat->Rat}{w:World}
def zC:Value:=.agg #[ai 0,ai 0,ai 0,ai 0,ai 0,ai 0,ai 0,ai 0,ai 0,ai 0,ai 0,ai 0,ai 0,ai 0,ai 0,ai 0,ai 0,ai 0,ai 0,ai 0]
theorem ZL:zC.cells.size=20:=rfl
theorem Tryz.infoCs:(Tryz.prog.info? 197).map (λi=>(i.zero,i.size,i.bytes))=some (some zC,20,160):=Kl
theorem qEx(a b:Nat)(v:Int)(w:World):(Instr.buildSlice 194 1 #[(0,.agg (qM a b v).toArray)]).run Tryz.prog w=.ok (.slice (some (az w.1.size 0)) 1 1) (w.alloc (.cells (qM a b v).toArray 197)):=Kl
theorem y8(a b:Nat)(v:Int):∀u∈qM a b v,u.oneCell'=true:=by
 intro u I;unfold qM zI at I;obtain⟨j,-,rfl⟩:=List.mem_map.1 I;rfl
theorem zB(a b:Nat)(v:Int):(qM a b v).length=20:=uM _ _
def yJ(u m n:Nat)(below:Bool):List (Nat×Nat×Int):=if below then [(n-m,n,1),(0,u,1)] else [(0,u,-1)]
def qz(u m n:Nat)(below:Bool)(k:Nat):List (Nat×Nat×Int):=yJ u m n below++(List.range k).map λj=>(j,j+1,1)
def zy(l:List (Nat×Nat×Int)):List Value:=l.flatMap λt=>qM t.1 t.2.1 t.2.2
theorem Xc(u m n:Nat)(below:Bool)(k:Nat):qz u m n below (k+1)=qz u m n below k++[(k,k+1,1)]:=by
 unfold qz;rw[List.range_succ,mA,<-List.append_assoc];rfl
theorem jD(u m n:Nat)(below:Bool)(k:Nat):(qz u m n below k).length=k+(if below then 2 else 1):=by
 unfold qz yJ;cases below <;> simp
theorem VU(l:List (Nat×Nat×Int))(t:Nat×Nat×Int):zy (l++[t])=zy l++qM t.1 t.2.1 t.2.2:=by
 unfold zy;rw[List.flatMap_append];simp
theorem jb(w:World)(xs:List Value)(t:TypeId):∀j u,xs[j]?=some u->(w.alloc (.cells xs.toArray t)).cell? (((az w.1.size 0):Addr).add j)=some u:=by
 have:=World.news_of_block (heap_alloc_new w (.cells xs.toArray t));simpa using this
theorem qDa(a b c d:Nat)(v v':Int):∃Z:Array Value,List.foldl (λ(cs:Array Value) (x:Value×Nat)=>cs.setIfInBounds x.snd x.fst) #[ai 0,ai 0,ai 0,ai 0,ai 0,ai 0,ai 0,ai 0,ai 0,ai 0,ai 0,ai 0,ai 0,ai 0,ai 0,ai 0,ai 0,ai 0,ai 0,ai 0,ai 0,ai 0,ai 0,ai 0,ai 0,ai 0,ai 0,ai 0,ai 0,ai 0,ai 0,ai 0,ai 0,ai 0,ai 0,ai 0,ai 0,ai 0,ai 0,ai 0] (qM a b v).zipIdx=Z/\Z.size=40/\List.foldl (λ(cs:Array Value) (x:Value×Nat)=>cs.setIfInBounds (20+x.snd) x.fst) Z (qM c d v').zipIdx=(qM a b v++qM c d v').toArray:=⟨_,rfl,Kl,Kl⟩
theorem qGB{op:Oper}{act:Act}{K:Act->World->Prop}{Q:Exit->Act->World->Prop}(x:Operand)(a b:Nat)(v:Int)(ho:op.op=.buildSlice 194 1 #[(0,x)])(I:act.eval x=.agg (qM a b v).toArray)
 (h:K (act.put op.dst (.slice (some (az w.1.size 0)) 1 1)) (w.alloc (.cells (qM a b v).toArray 197))):op.wp Tryz.prog act w K Q:=by
 have e:(#[(0,x)]:Array (Nat×Operand)).map (λp=>(p.1,act.eval p.2))=#[(0,.agg (qM a b v).toArray)]:=by simp[I]
 unfold Oper.wp execOp;simp only[ho,Sem.run_bind,Sem.run_pure];rw[e,qEx];exact h
theorem kQ{ops:Array Oper}{rest:List Oper}{op:Oper}{act:Act}{Q:Exit->Act->World->Prop}(I:op.guard=none)(x:Operand)(a b:Nat)(v:Int)(ho:op.op=.buildSlice 194 1 #[(0,x)])(K:act.eval x=.agg (qM a b v).toArray)
 (h:wpList Tryz.prog ops Q rest (act.put op.dst (.slice (some (az w.1.size 0)) 1 1)) (w.alloc (.cells (qM a b v).toArray 197))):wpList Tryz.prog ops Q (op::rest) act w:=
 wpList_plain I λ_ M=>qGB x a b v ho K (M _ _ h)
theorem qBW(w:World)(u m:Nat)(a:Option Addr)(cap:Nat)(hu:u<=7):
 Cl 145 #[.agg #[ai u,.slice a m cap,.bool false]] w λe w'=>∃v,e=.returned v/\w'.ownsRow w.1.size 197 20 v (u+1) (zy (qz u m (u+m) false u))/\Bl w w':=by
 obtain⟨i0,hi,a5,a6,a7⟩:=info_parts Tryz.infoCs;have a8:Bl w (w.alloc (.cells #[ai u,.slice a m cap,.bool false] 160)):=(bJ _ _).alloc (nR _) _;have a9:(w.alloc (.cells #[ai u,.slice a m cap,.bool false] 160)).cell? (az w.1.size 0)=some (ai u):=Sg;have b0:w.1.size<(w.alloc (.cells #[ai u,.slice a m cap,.bool false] 160)).1.size:=Ss;have HX:=ay (And.intro a8 (And.intro a9 b0));clear a8 a9 b0;go_enter Tryz.func145,Tryz.ntmps145;go_wp2_with (first|(go_at_call 172;refine(xU _ 0 u (-1) Oo).mono ?_;rintro e w2 ⟨rfl,hb⟩)|(refine kQ rfl _ 0 u (-1) rfl Fl ?_)|(at_builtin;refine wpList_append_own _ rfl _ _ 194 rfl w.1.size 197 i0 zC 20 160 Tryz.underlying194 hi a5 a6 a7 ZL Dd _ _ _ rfl (oN _ _ _ _) (az w2.1.size 0) 1 1 (qM 0 u (-1)) rfl ?c0 ?c1 ?c2 ?c3 ?c4 ?c5 ?_))
 case c0=>rw[zB]
 case c1=>exact jb w2 (qM 0 u (-1)) 197
 case c2=>exact y8 _ _ _
 case c3=>unfold maxLen;omega
 case c4=>omega
 case c5=>have:=hb.size;simp at this ⊢;omega
 intro v1 w3 K I _;have b1:Bl w w3:=by
  have a3:Bl w w2:=bt HX.o.1 hb;exact(a3.alloc a3.size _).grown I (by have:=a3.size;simp;omega) (λj hj=>by cases hj)
 have O:w3.ownsRow w.1.size 197 20 v1 1 (zy (qz u m (u+m) false 0)):=by
  have:zy (qz u m (u+m) false 0)=[]++qM 0 u (-1):=by simp[zy,qz,yJ]
  rw[this];exact K
 have c3:w3.cell? (az w.1.size 0)=some (ai u):=by
  have h1:=HX.o.2.2;have h2:=hb.size;have e1:w3.1[w.1.size]?=w2.1[w.1.size]?:=(I.block _ (by simp at h1 h2 ⊢;omega) (by simp[Value.ownBlock])).trans (Below.heap_alloc _ _ _ Oo);exact(bF (w:=w2) (a:=(az w.1.size 0)) e1).trans ((hb.cell (p:=(az w.1.size 0)) h1).trans HX.o.2.1)
 clear K I hb HX;go_wp2;go_loopw [3,32] (λv t wr=>∃k:Nat,k<=u/\t=ai k/\wr.ownsRow w.1.size 197 20 v (k+1) (zy (qz u m (u+m) false k))/\Bl w wr) (λ_ t _=>u-(intOf t).toNat);exact⟨0,nZ _,rfl,O,b1⟩;clear c3 O b1;obtain⟨k,hk,rfl,K,V⟩:=hrel;have b9:=V.size;by_cases c7:k<u
 ·have i1:(k:Int)<(u:Int):=Oo;have HS:Hh (zy (qz u m (u+m) false (k+1))=zy (qz u m (u+m) false k)++qM k (k+1) 1):=ay (by rw[Xc,VU]);have K1:Hh (∀W,Cl 172 #[ai (k:Nat),ai ((k:Int)+1),ai 1] W λe w'=>e=.returned (.agg (qM k (k+1) 1).toArray)/\Bl W w'):=ay (λW=>xU W k (k+1) 1 Oo);go_wp2_with (first|(go_at_call 172;refine(K1.o _).mono ?_;rintro e w2 ⟨rfl,hb⟩;have M:=qB K hb;have a4:=bt V hb;have b7:=a4.size)|(refine kQ rfl _ k (k+1) 1 rfl Fl ?_)|(at_builtin;refine wpList_append_own _ rfl _ _ 194 rfl w.1.size 197 i0 zC 20 160 Tryz.underlying194 hi a5 a6 a7 ZL Dd _ _ _ rfl (M.alloc _) (az w2.1.size 0) 1 1 (qM k (k+1) 1) rfl ?c0 ?c1 ?c2 ?c3 ?c4 ?c5 ?_))
  case c0=>rw[zB]
  case c1=>exact jb w2 (qM k (k+1) 1) 197
  case c2=>exact y8 _ _ _
  case c3=>unfold maxLen;omega
  case c4=>omega
  case c5=>simp;omega
  intro v' w1 U I _;have b8:=zT b7 M a4 I;rw[<-HS.o]at U;clear I K M hb a4 V;go_wp2;go_roundw;exact⟨k+1,Oo,Gg,U,b8⟩;exact Im
 obtain rfl:k=u:=Oo;have i1:¬((k:Int)<(k:Int)):=Oo;go_wp2;go_ret;exact⟨_,rfl,K,V⟩
theorem qCS(w:World)(u m:Nat)(a:Option Addr)(cap:Nat)(hu:u<=7)(hm:m<=6):
 Cl 145 #[.agg #[ai u,.slice a m cap,.bool true]] w λe w'=>∃v,e=.returned v/\w'.ownsRow w.1.size 197 20 v (u+2) (zy (qz u m (u+m+m) true u))/\Bl w w':=by
 obtain⟨i0,hi,b8,b9,c7⟩:=info_parts Tryz.infoCs;have a3:Hh (∀wx,Cl 170 #[.agg #[ai u,.slice a m cap,.bool true]] wx λe w'=>e=.returned (ai ((u+m+m:Nat):Int))/\Bl wx w'):=ay (λwx=>QK wx u a m cap true hu Oo);have a9:ArrAt (w.alloc (.cells #[ai u,.slice a m cap,.bool true] 160)) w.1.size 3 (f3 (ai u) (.slice a m cap) (.bool true)):=zG w 3 (f3 (ai u) (.slice a m cap) (.bool true)) 160;have c8:Bl w (w.alloc (.cells #[ai u,.slice a m cap,.bool true] 160)):=(bJ _ _).alloc (nR _) _;have c9:w.1.size<(w.alloc (.cells #[ai u,.slice a m cap,.bool true] 160)).1.size:=Ss;obtain⟨K,d3⟩:=Ex (u+m+m:Nat);rw[<-d3]at a3 ⊢;obtain⟨U,d4⟩:=Ex (K-m:Nat);have f7:K<=19:=Oo;have hle:(m:Int)<=(K:Int):=Oo;have d5:Hh ((K:Int)-(m:Int)=(U:Int)):=ay Oo;have d6:=ay d4;clear d3 d4;go_enter Tryz.func145,Tryz.ntmps145;go_upto_region 3 with fail;generalize w.alloc (.cells #[ai u,.slice a m cap,.bool true] 160)=W at *;obtain⟨e0,e1,e2⟩:=a9.three;go_cut [4] (λv wc=>v=ai U/\Bl w wc/\ArrAt wc w.1.size 3 (f3 (ai u) (.slice a m cap) (.bool true)))
 case first=>
  go_region_law (first|(go_simp;go_at_call 170;refine(a3.o _).mono ?_;rintro e w' ⟨rfl,hb⟩;have r1:w'.cell? (az w.1.size 1)=some (.slice a m cap):=(hb.cell (p:=(az w.1.size 1)) c9).trans e1))
  all_goals
   go_wp2_with fail
   go_meet
   exact⟨by rw[d5.o,wrap_small U (by have:=d6.o;omega)],bt c8 (qa hb),a9.below Oo (qa hb)⟩
 case rest=>
  obtain⟨rfl,d7,V⟩:=hcut;have d9:=ay V;obtain⟨d0,d1,d2⟩:=V.three;have e3:w.1.size<wc.1.size:=bL wc _ d0;have K1:Hh (∀W,Cl 172 #[ai (U:Nat),ai (K:Nat),ai 1] W λe w'=>e=.returned (.agg (qM U K 1).toArray)/\Bl W w'):=ay (λW=>xU W U K 1 Oo);have K2:Hh (∀W,Cl 172 #[ai 0,ai (u:Nat),ai 1] W λe w'=>e=.returned (.agg (qM 0 u 1).toArray)/\Bl W w'):=ay (λW=>xU W 0 u 1 Oo);have e4:Bl wc wc.drew:=(bJ _ _).drew;have L1:(qM U K 1).length=20:=zB _ _ _;have L2:(qM 0 u 1).length=20:=zB _ _ _;obtain⟨Z1,L3,L4⟩:=qDa U K 0 u 1 1;have L5:Z1.size=40:=L4.1;clear c9 c8 a9 e0 e1 e2;go_upto_region 4 with fail;go_cut [3] (λv wx=>wx.ownsRow w.1.size 197 20 v 2 (zy (qz u m K true 0))/\Bl w wx/\wx.cell? (az w.1.size 0)=some (ai u))
  case first=>
   go_region_law (first
    |(refine step_append_lies _ Fl _ _ _ Fl w.1.size 197 i0 zC 20 160 Tryz.underlying194 hi b8 b9 c7 ZL Dd sn 0 [] Fl (oN _ _ _ _) (az _ 0) 2 2 (qM U K 1++qM 0 u 1) Fl (by rw[lA,zB,zB]) (jb _ (qM U K 1++qM 0 u 1) 197) (λx hx=>by rcases List.mem_append.1 hx with h|h;exact y8 _ _ _ x h;exact y8 _ _ _ x h) Dd Um Oo (by have:=M.size;simp at this ⊢;omega) _ rfl ?_;intro g3 cp3 w4 b0 I f8 f9)
    |(go_simp;go_at_call 170;with_reducible refine(a3.o _).mono ?_;rintro e w1 ⟨rfl,e5⟩;have M:Bl wc w1:=bt (by assumption) e5;have a4:=V.below Oo M;obtain⟨g0,g1,g2⟩:=a4.three)
    |(go_simp;go_at_call 172;with_reducible refine(K1.o _).mono ?_;rintro e w2 ⟨rfl,e6⟩;have M:Bl wc w2:=bt (by assumption) e6;have a4:=V.below Oo M;obtain⟨g0,g1,g2⟩:=a4.three)
    |(go_simp;go_at_call 172;with_reducible refine(K2.o _).mono ?_;rintro e w3 ⟨rfl,e7⟩;have M:Bl wc w3:=bt (by assumption) e7;have a4:=V.below Oo M;obtain⟨g0,g1,g2⟩:=a4.three))
   all_goals
    go_wp2_with fail
    go_meet
    have b1:Bl w _:=bt d7 M
    refine⟨?_,(b1.alloc b1.size _).grown I (by have:=b1.size;simp;omega) (λj hj=>by cases hj),?_⟩
    ·have:zy (qz u m K true 0)=[]++(qM U K 1++qM 0 u 1):=by simp[zy,qz,yJ,d6.o]
     rw[this];exact b0
    exact(bF (a:=(az w.1.size 0)) ((I.block _ (by have:=M.size;show w.1.size<_;simp;omega) (by simp[Value.ownBlock])).trans (Below.heap_alloc _ _ _ (by have:=M.size;show w.1.size<_;omega)))).trans g0
  case rest=>
   obtain⟨a5,d8,c3⟩:=hcut;clear d9 d0 d1 d2 e3 e4 K1 K2 d7 V;go_wp2;go_loopw [3,32] (λv t wr=>∃k:Nat,k<=u/\t=ai k/\wr.ownsRow w.1.size 197 20 v (k+2) (zy (qz u m K true k))/\Bl w wr) (λ_ t _=>u-(intOf t).toNat);exact⟨0,nZ _,rfl,a5,d8⟩;clear c3 a5 d8;obtain⟨k,hk,rfl,a6,a8⟩:=hrel;have g4:=a8.size;by_cases g5:k<u
   ·have i1:(k:Int)<(u:Int):=Oo;have HS:Hh (zy (qz u m K true (k+1))=zy (qz u m K true k)++qM k (k+1) 1):=ay (by rw[Xc,VU]);have K1:Hh (∀W,Cl 172 #[ai (k:Nat),ai ((k:Int)+1),ai 1] W λe w'=>e=.returned (.agg (qM k (k+1) 1).toArray)/\Bl W w'):=ay (λW=>xU W k (k+1) 1 Oo);go_wp2_with (first|(go_at_call 172;refine(K1.o _).mono ?_;rintro e w2 ⟨rfl,hb⟩;have O:=qB a6 hb;have b7:=bt a8 hb;have e8:=b7.size)|(refine kQ rfl _ k (k+1) 1 rfl Fl ?_)|(at_builtin;refine wpList_append_own _ rfl _ _ 194 rfl w.1.size 197 i0 zC 20 160 Tryz.underlying194 hi b8 b9 c7 ZL Dd _ _ _ rfl (O.alloc _) (az w2.1.size 0) 1 1 (qM k (k+1) 1) rfl ?c0 ?c1 ?c2 ?c3 ?c4 ?c5 ?_))
    case c0=>rw[zB]
    case c1=>exact jb w2 (qM k (k+1) 1) 197
    case c2=>exact y8 _ _ _
    case c3=>unfold maxLen;omega
    case c4=>omega
    case c5=>simp;omega
    intro v' w1 a7 I _;have e9:=zT e8 O b7 I;rw[<-HS.o]at a7;clear I a6 O hb b7 a8;go_wp2;go_roundw;exact⟨k+1,Oo,Gg,a7,e9⟩;exact Im
   obtain rfl:k=u:=Oo;have i1:¬((k:Int)<(k:Int)):=Oo;go_wp2;go_ret;exact⟨_,rfl,a6,a8⟩
theorem Tryz.infoFr:(Tryz.prog.info? 158).map (λi=>(i.zero,i.size,i.bytes))=some (some (.agg #[ai 0,ai 0]),2,16):=Kl
def vu(C:Nat->Nat->Rat)(B:Nat->Nat)(n:Nat):Nat->Nat->Rat
 |0,_=>0
 |i+1,j=>if B i=j then C i n else vu C B n i j
structure FrAt(w:World)(g u:Nat)(f:Nat->Rat):Prop where
 num:∀j,j<u->w.cell? (az g (j*2))=some (ai (f j).num)
 den:∀j,j<u->w.cell? (az g (j*2+1))=some (ai (f j).den)
 free:∀q,q<u*2->w.frozen? (az g q)=false
theorem FrAt.set(h:FrAt w g u f)(hi:i<u)(q:Rat):
 FrAt ((w.setCell (az g (i*2)) (ai q.num)).setCell (az g (i*2+1)) (ai q.den)) g u (λj=>if i=j then q else f j) where
 num j hj:=by
  show _=some (ai (if i=j then q else f j).num);by_cases e:i=j;subst e;rw[if_pos rfl,bC _ _ _ _ Nq];exact bG _ _ _ (h.num i hi);rw[if_neg e,bC _ _ _ _ Nq,bC _ _ _ _ Nq];exact h.num j hj
 den j hj:=by
  show _=some (ai ((if i=j then q else f j).den:Nat));by_cases e:i=j;subst e;rw[if_pos rfl];refine bG _ _ _ (u:=ai (f i).den) ?_;rw[bC _ _ _ _ Nq];exact h.den i hi;rw[if_neg e,bC _ _ _ _ Nq,bC _ _ _ _ Nq];exact h.den j hj
 free q hq:=by rw[fS,fS];exact h.free q hq
theorem FrAt.drew(h:FrAt w g u f):FrAt w.drew g u f:=⟨h.num,h.den,h.free⟩
theorem qGz(n:Nat)(j:Nat)(h:j<n*2):(madeCells #[ai 0,ai 0] (n*2)).toList[j]?=some (ai 0):=by
 rw[Array.getElem?_toList];simp only[madeCells];rw[Array.getElem?_map,Array.getElem?_range,if_pos h];rcases Nat.mod_two_eq_zero_or_one j with e|e;simp[e];simp[e]
theorem JC(w:World)(k m n u:Nat)(C:Nat->Nat->Rat)(B:Nat->Nat)(bar:Nat->Bool)(h:SxAt w k m n C B bar)(hu:u<=1000)(d3:u<=n):
 Cl 147 #[.pointer (some (az k 0)),ai u] w λe w'=>e=.returned (.slice (some (az w.1.size 0)) u u)/\FrAt w' w.1.size u (vu C B n m)/\w.1.size<w'.1.size/\Bl w w':=by
 obtain⟨i0,hi,b8,b9,c7⟩:=info_parts Tryz.infoFr;have d4:=h.lay.mle;have d2:=h.lay.nle;have HS:=ay h;have d5:=h.lt;clear h;go_enter Tryz.func147,Tryz.ntmps147;go_wp2_with (at_make;refine wpList_make_full _ rfl _ _ 156 rfl w.1.size 158 i0 (.agg #[ai 0,ai 0]) 2 Tryz.underlying156 hi b8 b9 _ _ _ _ u rfl rfl rfl rfl ?b2 ?b3 (nR _) ?_)
 case b2=>rw[c7];omega
 case b3=>unfold maxLen;omega
 intro w0 M a5;have b0:Bl w w0:=(bJ _ _).grown a5 (nR _) (λj hj=>by cases hj);have a8:w.1.size<w0.1.size:=(M.lt _ rfl).2;have b7:(∀q,q<u*2->w0.cell? (az w.1.size q)=some (ai 0))/\∀q,w0.frozen? (az w.1.size q)=false:=
  ⟨λq hq=>by rw[M.cellAt q hq];exact qGz u q hq,λq=>M.frozenAt q⟩
 have a6:=ay (And.intro b0 (And.intro a8 b7));clear M a5 b0 a8 b7;go_wp2;go_loopw [12] (λt wr=>∃j:Nat,j<=u/\t=ai j/\Hh (Bl w wr/\w.1.size<wr.1.size/\(∀q,q<u*2->∃z,wr.cell? (az w.1.size q)=some (ai z))/\(∀q,wr.frozen? (az w.1.size q)=false)/\∀i,i<j->wr.cell? (az w.1.size (i*2))=some (ai 0)/\wr.cell? (az w.1.size (i*2+1))=some (ai 1))) (λt _=>u-(intOf t).toNat);exact⟨0,nZ _,rfl,ay ⟨a6.o.1,a6.o.2.1,λq hq=>⟨0,a6.o.2.2.1 q hq⟩,a6.o.2.2.2,λi hi=>Oo⟩⟩;clear a6;obtain⟨j,hj,rfl,hH⟩:=hrel;obtain⟨K,O,a9,V,U⟩:=hH.o;by_cases d6:j<u
 ·have i1:(j:Int)<(u:Int):=Oo;have HX:=ay hH.o;clear hH K a9 V U;go_wp2_with fail;refine(yB 0 _).mono ?_;rintro e w2 ⟨rfl,hb⟩;obtain⟨z0,d0⟩:=HX.o.2.2.1 (j*2) Oo;obtain⟨z1,d1⟩:=HX.o.2.2.1 (j*2+1) Oo;have c0:=(hb.cell (p:=(az w.1.size (j*2))) O).trans d0;have c1:=(hb.cell (p:=(az w.1.size (j*2+1))) O).trans d1;have f0:=(hb.frozen (p:=(az w.1.size (j*2))) O).trans (HX.o.2.2.2.1 (j*2));have f1:=(hb.frozen (p:=(az w.1.size (j*2+1))) O).trans (HX.o.2.2.2.1 (j*2+1));have HB:=ay hb;have d7:=hb.size;clear hb d0 d1;go_wp2;go_roundw
  case rel=>
   have ne:∀(X:World) (a b:Nat) (v:Value),a≠b->(X.setCell (az w.1.size b) v).cell? (az w.1.size a)=X.cell? (az w.1.size a):=λX a b v d8=>bC _ _ _ _ (by intro e2;simp only[Addr.mk.injEq]at e2;omega);refine⟨j+1,Oo,Gg,ay ⟨((bt HX.o.1 HB.o).setCell (nR _) _).setCell (nR _) _,by simp[World.setCell];omega,λq hq=>?_,λq=>by rw[fS,fS];exact(HB.o.frozen (p:=(az w.1.size q)) O).trans (HX.o.2.2.2.1 q),λi hi=>?_⟩⟩
   ·obtain⟨z,hz⟩:=HX.o.2.2.1 q hq;have c8:=(HB.o.cell (p:=(az w.1.size q)) O).trans hz;by_cases e1:q=j*2+1;subst e1;exact⟨_,bG _ _ _ ((ne _ _ _ _ Oo).trans c1)⟩;by_cases e2:q=j*2;subst e2;exact⟨_,(ne _ _ _ _ Oo).trans (bG _ _ _ c0)⟩;exact⟨z,(ne _ _ _ _ e1).trans ((ne _ _ _ _ e2).trans c8)⟩
   by_cases e:i=j;subst e;exact⟨(ne _ _ _ _ Oo).trans (bG _ _ _ c0),bG _ _ _ ((ne _ _ _ _ Oo).trans c1)⟩;obtain⟨h1,h2⟩:=HX.o.2.2.2.2 i Oo;exact⟨(ne _ _ _ _ Oo).trans ((ne _ _ _ _ Oo).trans ((HB.o.cell (p:=(az w.1.size (i*2))) O).trans h1)),(ne _ _ _ _ Oo).trans ((ne _ _ _ _ Oo).trans ((HB.o.cell (p:=(az w.1.size (i*2+1))) O).trans h2))⟩
  case measure=>simp[intOf];omega
 obtain rfl:j=u:=Oo;have i1:¬((j:Int)<(j:Int)):=Oo;have a3:=HS.o.below K;have c0:wr.cell? (az k 0)=some (ai m):=a3.lay.rows;have I:Hh (FrAt wr w.1.size j (vu C B n 0)):=ay ⟨λi hi=>(U i hi).1,λi hi=>(U i hi).2,λq _=>V q⟩;have a4:=ay K;clear hH K a9 V U a3;go_wp2;go_loopw [24] (λt wr=>∃i:Nat,i<=m/\t=ai i/\w.1.size<wr.1.size/\Hh (Bl w wr/\FrAt wr w.1.size j (vu C B n i))) (λt _=>m-(intOf t).toNat);exact⟨0,nZ _,rfl,O,ay ⟨a4.o,I.o⟩⟩;clear a4 I;obtain⟨i,d9,rfl,a7,hH⟩:=hrel;obtain⟨K,V⟩:=hH.o;by_cases c9:i<m
 ·have i2:(i:Int)<(m:Int):=Oo;have i8:(i:Int)<8:=Oo;have i20:(n:Int)<20:=Oo;have a3:=HS.o.below K;have b1:wr.cell? (az k (322+i))=some (ai (B i:Nat)):=a3.lay.bas i c9;have b2:wr.cell? (az k 1)=some (ai n):=a3.lay.cols;have b3:wr.cell? (az k (2+i*40+n*2))=some (ai (C i n).num):=a3.lay.num i n Oo (nR _);have b4:wr.cell? (az k (2+i*40+n*2+1))=some (ai (C i n).den):=a3.lay.den i n Oo (nR _);have I:=ay V;have a4:=ay K;clear hH K V a3;by_cases hB:B i<j
  ·have i3:(B i:Int)<(j:Int):=Oo;have c1:=I.o.num (B i) hB;have c2:=I.o.den (B i) hB;have f1:=I.o.free (B i*2) Oo;have f2:=I.o.free (B i*2+1) Oo;go_wp2_with fail;go_region
   go_wp2;go_roundw;exact⟨i+1,Oo,Gg,by simpa[World.setCell]using a7,ay ⟨((a4.o.setCell (nR _) _).setCell (nR _) _).drew,FrAt.drew (I.o.set hB (C i n))⟩⟩;exact Im
  have i3:¬((B i:Int)<(j:Int)):=Oo;go_wp2;go_roundw;exact⟨i+1,Oo,Gg,a7,ay ⟨a4.o,⟨λq hq=>by rw[show vu C B n (i+1) q=vu C B n i q from if_neg Oo];exact I.o.num q hq,λq hq=>by rw[show vu C B n (i+1) q=vu C B n i q from if_neg Oo];exact I.o.den q hq,I.o.free⟩⟩⟩;exact Im
 obtain rfl:i=m:=Oo;have i2:¬((i:Int)<(i:Int)):=Oo;have I:=ay V;have a4:=ay K;clear hH K V;go_wp2;go_ret;exact⟨rfl,I.o,a7,a4.o⟩
def inc(L:List (List Nat))(r e:Nat):Rat:=if e∈L.getD r [] then 1 else 0
theorem Qb(l:List Nat)(x:Nat):(l.contains x=true)=(x∈l):=Ss
theorem qAJ(u:Nat)(L:List (List Nat))(i j:Nat)(hi:i<L.length)(O:j<=u+L.length):xW u L false i j=Cov.packA L.length u (inc L) j i:=by
 unfold xW Cov.packA inc;simp only[Bool.false_eq_true,if_false,Qb,false_and];rw[if_pos hi];by_cases K:j=u+L.length;rw[if_pos K,if_neg Oo,if_neg Oo];rw[if_neg K];by_cases I:j<u;rw[if_pos I,if_pos I];rw[if_neg I,if_neg I,if_pos (show j<u+L.length by omega)];by_cases M:j-u=i;rw[if_pos M,if_pos Oo];rw[if_neg M,if_neg Oo]
theorem U4(u:Nat)(L:List (List Nat))(i j:Nat)(hi:i<L.length)(U:j<=u+L.length+L.length):xW u L true i j=Cov.coverA L.length u (inc L) j i:=by
 unfold xW Cov.coverA inc;simp only[if_true,Qb,true_and];rw[if_pos hi];by_cases M:j=u+L.length+L.length;rw[if_pos M,if_neg Oo,if_neg Oo,if_neg Oo];rw[if_neg M];by_cases K:j<u;rw[if_pos K,if_pos K];rw[if_neg K,if_neg K];by_cases O:j<u+L.length
 ·rw[if_pos O,if_neg Oo];by_cases I:j-u=i;rw[if_pos I,if_pos Oo];rw[if_neg I,if_neg Oo]
 rw[if_neg O,if_pos (show j<u+L.length+L.length by omega)];by_cases I:j-u-L.length=i;rw[if_pos I,if_pos Oo];rw[if_neg I,if_neg Oo,if_neg Oo]
theorem Ve{m n:Nat}:∀{l:List (Nat->Rat)} {c:Nat->Rat} {bar K I:Nat->Bool} {s M O:Cov.Sx},Cov.Aims m n l bar s K M->Cov.Aim m n c K M I O->Cov.Aims m n (l++[c]) bar s I O
 |[],_,_,_,_,_,_,_,h,h2=>by
  obtain⟨rfl,rfl⟩:=h;exact⟨_,_,h2,rfl,rfl⟩
 |_::_,_,_,_,_,_,_,_,h,h2=>by
  obtain⟨b,s,U,V⟩:=h;exact⟨b,s,U,Ve V h2⟩
theorem qDg{cost:Nat->Rat}{s M:Cov.Sx}(h:Cov.Good m n A bar s)(O:Cov.Aim m n cost bar s I M):Cov.Good m n A I M/\Cov.Good m n A bar M:=by
 obtain⟨k,h1,_,U,V⟩:=O;have K:Cov.Good m n A bar M:=by rw[U];exact h.it k
 refine⟨⟨K.inv,K.feas,λi hi=>?_⟩,K⟩;rw[V];unfold Cov.narrowed;rw[K.open' i hi,K.inv.red_basic cost hi];simp
theorem U5(a b:Nat)(v:Int):rc (xA a b v)=Cov.cf a b ((v:Int):Rat):=by
 funext j;unfold rc xA Cov.cf;split <;> rfl
def kU(l:List (Nat×Nat×Int)):List (Nat->Rat):=l.map λt=>rc (xA t.1 t.2.1 t.2.2)
theorem qCX(u m n:Nat):kU (qz u m n false u)=Cov.cf 0 u (-1)::Cov.units u:=by
 unfold kU qz yJ Cov.units;simp only[Bool.false_eq_true,if_false,List.map_cons,List.map_map,List.cons_append,List.nil_append,U5];congr 1
theorem qBg(u m:Nat):kU (qz u m (u+m+m) true u)=Cov.cf (u+m) (u+m+m) 1::Cov.cf 0 u 1::Cov.units u:=by
 unfold kU qz yJ Cov.units;simp only[if_true,List.map_cons,List.map_map,List.cons_append,List.nil_append,U5];rw[show u+m+m-m=u+m by omega];congr 1
theorem Vf(a b:Nat)(v:Int)(hv:v.natAbs<=1)(j:Nat):(xA a b v j).natAbs<=1:=by
 unfold xA;split;exact hv;simp
theorem qCY(u m n:Nat)(below:Bool)(k:Nat):∀t∈qz u m n below k,t.2.2.natAbs<=1:=by
 intro t I;unfold qz yJ at I;rcases List.mem_append.1 I with h|h
 ·cases below
  simp at h;subst h;simp;simp at h;rcases h with rfl|rfl <;> simp
 obtain⟨j,-,rfl⟩:=List.mem_map.1 h;simp
theorem Z9{C:Nat->Nat->Rat}{B:Nat->Nat}{n:Nat}:∀{m:Nat},(∀i,i<m->∀k,k<m->B i=B k->i=k)->∀j,vu C B n m j=Cov.val m (λi=>C i n) B j
 |0,_,_=>rfl
 |m+1,hB,j=>by
  have I:=Z9 (C:=C) (B:=B) (n:=n) (m:=m) (λi hi k O e=>hB i Oo k Oo e) j;show(if B m=j then C m n else vu C B n m j)=Cov.sm m (λi=>if B i=j then C i n else 0)+(if B m=j then C m n else 0);rw[I];unfold Cov.val;by_cases e:B m=j
  ·have K:Cov.sm m (λi=>if B i=j then C i n else 0)=0:=Cov.sm_zero (λi hi=>if_neg (λM=>by
    have:=hB i Oo m Oo (M.trans e.symm);omega))
   simp only[K,if_pos e];grind
  simp only[if_neg e];grind
theorem Vg(L:List (List Nat))(r e:Nat):Cov.Whole 1 (inc L r e):=by
 unfold inc;split;exact⟨1,rfl,Dd⟩;exact⟨0,rfl,Dd⟩
theorem Xl(m u:Nat)(L:List (List Nat))(j r:Nat):Cov.Whole 1 (Cov.packA m u (inc L) j r):=by
 unfold Cov.packA;repeat' split
 exact Vg L r j;exact⟨1,rfl,Dd⟩;exact⟨0,rfl,Dd⟩;exact⟨1,rfl,Dd⟩
theorem jt(m u:Nat)(L:List (List Nat))(j r:Nat):Cov.Whole 1 (Cov.coverA m u (inc L) j r):=by
 unfold Cov.coverA;repeat' split
 exact Vg L r j;exact⟨-1,rfl,Dd⟩;exact⟨0,rfl,Dd⟩;exact⟨1,rfl,Dd⟩;exact⟨0,rfl,Dd⟩;exact⟨1,rfl,Dd⟩
theorem qBy(w:World)(u m n:Nat)(a:Option Addr)(cap:Nat)(below:Bool)(I:u<=7)(hb:below=true->m<=6)(K:n=if below then u+m+m else u+m):
 Cl 145 #[.agg #[ai u,.slice a m cap,.bool below]] w λe w'=>∃v,e=.returned v/\w'.ownsRow w.1.size 197 20 v (qz u m n below u).length (zy (qz u m n below u))/\Bl w w':=by
 rw[jD];cases below
 have:=qBW w u m a cap I;rw[K];exact this;have:=qCS w u m a cap I (hb rfl);rw[K];exact this
theorem Jo:∀(l:List (Nat×Nat×Int)) (i j:Nat),i<l.length->j<20->(zy l)[i*20+j]?=(qM (l.getD i (0,0,0)).1 (l.getD i (0,0,0)).2.1 (l.getD i (0,0,0)).2.2)[j]?
 |[],i,_,h,_=>by simp at h
 |t::l,0,j,_,hj=>by
  show(qM t.1 t.2.1 t.2.2++zy l)[0*20+j]?=(qM t.1 t.2.1 t.2.2)[j]?;rw[aL (by rw[zB];omega),show 0*20+j=j by omega]
 |t::l,i+1,j,h,hj=>by
  show(qM t.1 t.2.1 t.2.2++zy l)[(i+1)*20+j]?=_;rw[bQ (by rw[zB];omega),zB,show(i+1)*20+j-20=i*20+j by omega];exact Jo l i j (by simpa using h) hj
theorem qFX{l:List (Nat×Nat×Int)}(h:w.ownsRow B 197 20 (.slice (some (az g 0)) l.length cap) l.length (zy l)){i:Nat}(hi:i<l.length):
 w.rangeAt g (i*20) (qM (l.getD i (0,0,0)).1 (l.getD i (0,0,0)).2.1 (l.getD i (0,0,0)).2.2):=by
 rcases h.2 with ⟨I,_⟩|⟨g',O,cur,hv,-,U,-,-,-,V⟩;cases I
 simp only[Value.slice.injEq,Option.some.injEq,Addr.mk.injEq]at hv;obtain⟨⟨rfl,-⟩,-,-⟩:=hv;intro j v M;have K:j<20:=by
  rcases Nat.lt_or_ge j 20 with I|I;exact I;rw[gN (by rw[zB];exact I)]at M;cases M
 rw[cell_of_row _ _ _ _ _ _ U,<-Array.getElem?_toList];have:=Jo l i j hi K;rw[<-V,List.getElem?_take_of_lt Oo]at this;rw[this];exact M
structure LS(w wr:World)(k g cap u m n:Nat)(A:Nat->Nat->Rat)(l:List (Nat×Nat×Int))(F:Nat->Value)(s0:Cov.Sx)(i:Nat)(bar:Nat->Bool)(s:Cov.Sx)(C:Nat->Nat->Rat):Prop where
 aims:Cov.Aims m n (kU (l.take i)) (λ_=>false) s0 bar s
 good:Cov.Good m n A bar s
 sx:SxAt wr k m n C s.B bar
 rows:∀a,a<m->∀j,j<=n->C a j=s.T a j
 last:∀j,j<=n->Sm 41000 (C m j)
 bel:Bl w wr
 own:wr.ownsRow (k+1) 197 20 (.slice (some (az g 0)) l.length cap) l.length (zy l)
 arg:ArrAt wr w.1.size 3 F
theorem qC6(l:List (Nat×Nat×Int))(i:Nat)(h:i<l.length):kU (l.take (i+1))=kU (l.take i)++[rc (xA (l.getD i (0,0,0)).1 (l.getD i (0,0,0)).2.1 (l.getD i (0,0,0)).2.2)]:=by
 unfold kU;rw[tA,gE h,gD,gE h];simp only[Option.toList_some,List.map_append,List.map_cons,List.map_nil,Option.getD_some]
theorem qGd{s:Nat}{e:TypeId}{xs:List Value}(h:w.ownsRow B e s (.slice (some (az g 0)) n cap) n xs):B<=g/\g<w.1.size:=h.lt g rfl
theorem LS.step{wr wx w':World}{k:Nat}{l:List (Nat×Nat×Int)}{F:Nat->Value}{s0:Cov.Sx}{s O:Cov.Sx}
 (h:LS w wr k g cap u m n A l F s0 i bar s C) (hi:i<l.length) (hm:m<=7) (hW:∀j,j<=n->∀r,r<m->Cov.Whole 1 (A j r)) (U:∀t∈l,t.2.2.natAbs<=1) (hk:w.1.size<k) (hx:Bl wr wx) (hK:Kb k wx w')
 (ha:Cov.Aim m n (rc (xA (l.getD i (0,0,0)).1 (l.getD i (0,0,0)).2.1 (l.getD i (0,0,0)).2.2)) bar s I O)
 (hs:SxAt w' k m n (full m (xA (l.getD i (0,0,0)).1 (l.getD i (0,0,0)).2.1 (l.getD i (0,0,0)).2.2) O) O.B I):
 LS w w' k g cap u m n A l F s0 (i+1) I O (full m (xA (l.getD i (0,0,0)).1 (l.getD i (0,0,0)).2.1 (l.getD i (0,0,0)).2.2) O):=by
 have V:l.getD i (0,0,0)∈l:=by
  rw[gD,gE hi];exact gM _
 have hg:=qDg h.good ha;have a3:=uu hg.1.inv hW hm (xA (l.getD i (0,0,0)).1 (l.getD i (0,0,0)).2.1 (l.getD i (0,0,0)).2.2) (Vf _ _ _ (U _ V));have M:=qB h.own hx;have a4:=qGd M;have K:=h.arg.below Oo hx;refine⟨?_,hg.1,hs,λa a5 j _=>?_,λj hj=>?_,?_,?_,?_⟩;rw[qC6 l i hi];exact Ve h.aims ha;unfold full;rw[if_neg Oo];unfold full;rw[if_pos rfl];exact a3.2 j hj m (nR _);exact Below.trans (bt h.bel hx) (hK.below (bt h.bel hx).size Oo)
 ·exact qC M (λb hb=>by
   simp only[Value.ownBlock,Option.some.injEq]at hb;subst hb;exact hK.block g a4.2 Oo)
 exact K.move (hK.block _ (K.lt Oo) Oo)
theorem vZ(w:World)(u n:Nat)(vr:Value)(L:List (List Nat))(below:Bool)(hu:u<=7)(hL:L.length<=7)(c9:below=true->L.length<=6)(hn:n=if below then u+L.length+L.length else u+L.length)(d0:n<=19)
 (hr:RowsAt w vr L) (hlen:∀i,i<L.length->(L.getD i []).length<=7) (d1:∀i,i<L.length->∀j∈L.getD i [],j<u)
 (A:Nat->Nat->Rat) (hA:∀i,i<L.length->∀j,j<=n->xW u L below i j=A j i) (hW:∀j,j<=n->∀r,r<L.length->Cov.Whole 1 (A j r)) (hG:Cov.Good L.length n A (λ_=>false) ⟨λi j=>A j i,λi=>n-L.length+i⟩):
 Cl 121 #[.agg #[ai u,vr,.bool below]] w λe w'=>∃g K s',e=.returned (.slice (some (az g 0)) u u)/\FrAt w' g u (Cov.xb L.length n s')/\
  Cov.Aims L.length n (kU (qz u L.length n below u)) (λ_=>false) ⟨λi j=>A j i,λi=>n-L.length+i⟩ K s'/\Cov.Good L.length n A K s'/\w.1.size<=g/\g<w'.1.size/\Bl w w':=by
 have KS:Hh (∀W,RowsAt W vr L->Cl 144 #[.agg #[ai u,vr,.bool below]] W λe w'=>∃V,e=.returned (.agg V)/\IsSx V L.length n (xW u L below) (λi=>n-L.length+i) (λ_=>false)/\Bl W w'):=ay (λW e0=>by
  have:=UE W u vr L below hu hL (by rw[<-hn];exact d0) e0 hlen d1;rw[<-hn]at this;exact this)
 obtain⟨a,cap,d2,-⟩:=id hr;have KA:Hh (∀W,Cl 145 #[.agg #[ai u,vr,.bool below]] W λe w'=>∃v,e=.returned v/\w'.ownsRow W.1.size 197 20 v (qz u L.length n below u).length (zy (qz u L.length n below u))/\Bl W w'):=ay (λW=>by rw[d2];exact qBy W u L.length n a cap below hu c9 hn);have HR:=ay hr;have e1:u<=n:=by rw[hn];split <;> omega
 obtain⟨m,hm⟩:=Ex L.length;obtain⟨l,hl⟩:=Ex (qz u m n below u);have e2:l.length<=9:=by rw[hl,jD];split <;> omega
 have d3:0<l.length:=by rw[hl,jD];split <;> omega
 have b0:Hh (∀t∈l,t.2.2.natAbs<=1):=ay (by rw[hl];exact qCY u m n below u);rw[<-hm]at KS KA hL hA hW hG ⊢;rw[<-hl]at KA ⊢;obtain⟨ln,b1⟩:=Ex l.length;rw[<-b1]at KA e2 d3;have HA:=ay hA;have HW:=ay hW;have HG:=ay hG;have HM:=ay hm;have b7:=ay b1;clear hA hW hG hm hl b1 c9 hn hlen d1 hr d2;have b8:Bl w (w.alloc (.cells #[ai u,vr,.bool below] 160)):=(bJ _ _).alloc (nR _) _;have b9:ArrAt (w.alloc (.cells #[ai u,vr,.bool below] 160)) w.1.size 3 (f3 (ai u) vr (.bool below)):=zG w 3 (f3 (ai u) vr (.bool below)) 160;have e3:(w.alloc (.cells #[ai u,vr,.bool below] 160)).1.size=w.1.size+1:=Ss;go_enter Tryz.func121,Tryz.ntmps121;go_upto_region 1 with fail;generalize w.alloc (.cells #[ai u,vr,.bool below] 160)=W at *;obtain⟨p0,p1,p2⟩:=b9.three;go_upto_region 2 with (first|(go_at_call 144;refine(KS.o _ (HR.o.below b8)).mono ?_;rintro e w2 ⟨V,rfl,hV,a5⟩;have HV:=ay hV;have HT:Hh ((w2.alloc (.cells zSx 192)).there w2.1.size 0 V.size):=ay (by rw[hV.1];exact yK w2 _);have HI:Hh ((Tryz.prog.info? 192).map (·.size)=some V.size):=ay (by rw[hV.1];exact uS);have HO:=ay hV.one;have a6:=ay (hV.stored (yK w2 192));clear hV)|(refine vG rfl rfl ?_)|(refine wpList_store_mid rfl 192 _ _ rfl _ 0 V Fl Fl (by exact HT.o) (by exact HI.o) (by exact HO.o) ?_));have O:Bl w w2:=bt b8 a5;have U:=O.size;have e4:=a5.size;have c7:Bl w ((w2.alloc (.cells zSx 192)).setCells w2.1.size 0 V.toList):=xG U _ _ _ (O.alloc U _);have a7:ArrAt ((w2.alloc (.cells zSx 192)).setCells w2.1.size 0 V.toList) w.1.size 3 (f3 (ai u) vr (.bool below)):=((b9.below Oo a5).alloc Oo _).move (yl _ _ _ _ _ Oo);have d4:w.1.size<w2.1.size:=Oo;obtain⟨k,hk⟩:=Ex w2.1.size;rw[<-hk]at c7 a7 d4 a6 ⊢;generalize (w2.alloc (.cells zSx 192)).setCells k 0 V.toList=w3 at *;have g5:k<w3.1.size:=a6.o.lt;clear HT HI HO HV a5 b8 b9 p0 p1 p2 O U e4 hk e3;obtain⟨p0,p1,p2⟩:=a7.three;go_wp2_with (first|(go_at_call 145;refine(KA.o _).mono ?_;rintro e w4 ⟨v,rfl,a3,a8⟩;obtain⟨g,gc,rfl,g6,g7⟩:=a3.form d3));have d5:Hh (LS w w4 k g gc u m n A l (f3 (ai u) vr (.bool below)) ⟨λi j=>A j i,λi=>n-m+i⟩ 0 (λ_=>false) ⟨λi j=>A j i,λi=>n-m+i⟩ (xW u L below)):=ay
  { aims:=⟨rfl,rfl⟩
    good:=HG.o
    sx:=a6.o.below a8
    rows:=HA.o
    last:=λj _=>by rw[show xW u L below m j=0 from if_neg (by rw[HM.o];omega)];exact⟨Dd,Dd⟩
    bel:=bt c7 a8
    own:=by rw[<-b7.o];exact qF a3 Oo
    arg:=a7.below Oo a8 }
 clear a6 a3 a8 c7 a7 p0 p1 p2 KS KA HR HG HA;go_loopw [11] (λt wr=>∃i:Nat,i<=ln/\t=ai i/\Hh (∃bar s C,LS w wr k g gc u m n A l (f3 (ai u) vr (.bool below)) ⟨λi j=>A j i,λi=>n-m+i⟩ i bar s C)) (λt _=>ln-(intOf t).toNat);exact⟨0,nZ _,rfl,ay ⟨_,_,_,d5.o⟩⟩;clear d5;obtain⟨i,hi,rfl,hH⟩:=hrel;obtain⟨bar,s,C,I⟩:=hH.o;by_cases e5:i<ln
 ·have i1:(i:Int)<(ln:Int):=Oo;have a4:i<l.length:=by rw[<-b7.o];exact e5
  obtain⟨cs,M⟩:=Ex (qM (l.getD i (0,0,0)).1 (l.getD i (0,0,0)).2.1 (l.getD i (0,0,0)).2.2);have e6:Hh (wr.rangeAt g (i*20) cs):=ay (by rw[M];exact qFX I.own a4);have c8:Hh (cs.length=20):=ay (by rw[M];exact zB _ _ _);have d6:Hh ((Tryz.prog.info? 197).map (·.size)=some cs.length):=ay (by rw[c8.o];exact Xi);have e7:Hh ((Tryz.prog.info? 197).map (·.size)=some cs.toArray.size):=ay (by rw[show cs.toArray.size=20 by simpa using c8.o];exact Xi);have e8:Hh (cs.toArray.all (·.oneCell')=true):=ay (all_oneCell_toArray (by rw[M];exact y8 _ _ _));have d7:Hh ((wr.alloc (.cells (zI 20 (λ_=>ai 0)).toArray 197)).there wr.1.size 0 cs.toArray.size):=ay (by rw[show cs.toArray.size=20 by simpa using c8.o];exact(zG wr 20 (λ_=>ai 0) 197).there);have e9:Hh (((wr.alloc (.cells (zI 20 (λ_=>ai 0)).toArray 197)).setCells wr.1.size 0 cs.toArray.toList).rangeAt wr.1.size 0 cs):=ay (by
   have:=World.rangeAt_setCells_same (wr.alloc (.cells (zI 20 (λ_=>ai 0)).toArray 197)) wr.1.size 0 cs.toArray.toList (by have:=d7.o;simpa using this);simpa using this)
  have d8:Bl wr ((wr.alloc (.cells (zI 20 (λ_=>ai 0)).toArray 197)).setCells wr.1.size 0 cs.toArray.toList):=xG (nR _) _ _ _ (aK);have d9:=ay d8;have a9:=ay I;have g8:=ay M;have KL:Hh (∀W,SxAt W k m n C s.B bar->Cl 146 #[.pointer (some (az k 0)),.agg cs.toArray] W λe w'=>e=.returned (.tuple #[])/\Kb k W w'/\∃K s',Cov.Aim m n (rc (xA (l.getD i (0,0,0)).1 (l.getD i (0,0,0)).2.1 (l.getD i (0,0,0)).2.2)) bar s K s'/\SxAt w' k m n (full m (xA (l.getD i (0,0,0)).1 (l.getD i (0,0,0)).2.1 (l.getD i (0,0,0)).2.2) s') s'.B K):=ay (λW hS=>by
   rw[M];refine UB W k m n A C s bar hS I.rows I.last I.good HW.o _ (Vf _ _ _ (b0.o _ ?_));rw[gD,gE a4];exact gM _)
  clear hH I M d8;go_wp2_with (first|(refine wpList_load_mid rfl 197 _ rfl g (i*20) Fl cs _ (by exact e6.o) Tryz.underlying197 Fl (by exact d6.o) ?_)|(refine jz rfl rfl ?_)|(refine wpList_store_mid rfl 197 _ _ rfl wr.1.size 0 cs.toArray Fl Fl (by exact d7.o) (by exact e7.o) (by exact e8.o) ?_)|(refine wpList_load_mid rfl 197 _ rfl wr.1.size 0 Fl cs _ (by exact e9.o) Tryz.underlying197 Fl (by exact d6.o) ?_)|(go_at_call 146;refine(KL.o _ (a9.o.sx.below d9.o)).mono ?_;rintro e w5 ⟨rfl,hK,K,s',ha,f7⟩));go_roundw;exact⟨i+1,Oo,Gg,ay ⟨_,_,_,a9.o.step a4 hL HW.o b0.o d4 d9.o hK ha f7⟩⟩;exact Im
 obtain rfl:i=ln:=Oo;have i1:¬((i:Int)<(i:Int)):=Oo;obtain⟨p0,-,-⟩:=I.arg.three;have KV:Hh (Cl 147 #[.pointer (some (az k 0)),ai u] wr λe w'=>e=.returned (.slice (some (az wr.1.size 0)) u u)/\FrAt w' wr.1.size u (vu C s.B n m)/\wr.1.size<w'.1.size/\Bl wr w'):=ay (JC wr k m n u C s.B bar I.sx Oo e1);have a9:=ay I;clear hH I;go_wp2_with (first|(go_at_call 147;refine KV.o.mono ?_;rintro e w5 ⟨rfl,hF,f8,f9⟩));go_ret;have I:=a9.o;have g4:=I.bel.size;refine⟨_,bar,s,rfl,⟨λj hj=>?_,λj hj=>?_,hF.free⟩,?_,I.good,g4,f8,bt I.bel f9⟩;rw[hF.num j hj];have:vu C s.B n m j=Cov.xb m n s j:=(Z9 (λa ha b hb e=>I.good.inv.inj ha hb e) j).trans (Cov.sm_congr (λa ha=>by show(if s.B a=j then C a n else 0)=if s.B a=j then s.T a n else 0;rw[I.rows a ha n (nR _)]));rw[this];rw[hF.den j hj];have:vu C s.B n m j=Cov.xb m n s j:=(Z9 (λa ha b hb e=>I.good.inv.inj ha hb e) j).trans (Cov.sm_congr (λa ha=>by show(if s.B a=j then C a n else 0)=if s.B a=j then s.T a n else 0;rw[I.rows a ha n (nR _)]));rw[this];have:=I.aims;rw[b7.o,tL]at this;exact this
end Go.Proofs.YtcnfapnfmnolbaaGreat
