import Derived.Test.YtkaipapdlnojiaaGreatWq07
set_option maxHeartbeats 40000000
set_option maxRecDepth 1000000
namespace Go.Proofs.YtkaipapdlnojiaaGreat
open Go.RowKit
variable {N b i j k m n o:Nat}{bar:Nat->Bool}{B:Nat->Nat}{C:Nat->Nat->Rat}{a w w' wr:World}
theorem XY(n:Int)(w:World):
 Cl 91 #[.int .i64 n] w λe w'=>e=.returned (.agg #[.int .i64 (n:Rat).num,.int .i64 (n:Rat).den])/\Bl w w':=by
 go_enter Tryz.func91,Tryz.ntmps91
 go_wp2_with fail
 refine(qFV 0 0 n _).mono ?_;rintro e w1 ⟨rfl,hb⟩;obtain⟨I,K⟩:=xP hb;have c0:w1.cell? ⟨w.heap.size,0,none⟩=some (.int .i64 0):=(I _ 0 (by simp;omega)).trans (by simp[go_sem]);have c1:w1.cell? ⟨w.heap.size,1,none⟩=some (.int .i64 0):=(I _ 1 (by simp;omega)).trans (by simp[go_sem]);have f0:w1.frozen? ⟨w.heap.size,0,none⟩=false:=(K _ 0 (by simp;omega)).trans (by simp[go_sem]);have f1:w1.frozen? ⟨w.heap.size,1,none⟩=false:=(K _ 1 (by simp;omega)).trans (by simp[go_sem]);go_wp2;refine bodyPost_ret (v:=.agg #[.int .i64 (n:Rat).num,.int .i64 (n:Rat).den]) (by simp[results,Tryz.results91,go_sem,c0,c1]) rfl ⟨rfl,?_⟩;exact((below_alloc2 hb).setCell (bK _) _).setCell (bK _) _
structure ArrAt(w:World)(k N:Nat)(f:Nat->Value):Prop where
 cell:∀j,j < N->w.cell? ⟨k,j,none⟩=some (f j)
 free:∀j,j < N->w.frozen? ⟨k,j,none⟩=false
def zG(N:Nat)(f:Nat->Value):List Value:=(List.range N).map f
theorem vL(N:Nat)(f:Nat->Value):(zG N f).length=N:=by simp[zG]
theorem V9{f:Nat->Value}(I:j < N):(zG N f)[j]?=some (f j):=by
 unfold zG;rw[bN,List.getElem?_range I];rfl
theorem ArrAt.range{f:Nat->Value}(h:ArrAt w k N f):w.rangeAt k 0 (zG N f):=by
 intro j v hv;have I:j < N:=by rw[<-vL N f];exact(List.getElem?_eq_some_iff.1 hv).1
 rw[V9 I]at hv;simp only[Option.some.injEq]at hv;rw[Nat.zero_add,h.cell j I,hv]
theorem ArrAt.there{f:Nat->Value}(h:ArrAt w k N f):w.there k 0 N:=by
 intro j I;rw[Nat.zero_add,h.cell j I];exact⟨rfl,h.free j I⟩
theorem ArrAt.set{f:Nat->Value}(h:ArrAt w k N f)(hi:i < N)(v:Value):ArrAt (w.setCell ⟨k,i,none⟩ v) k N (λj=>if j=i then v else f j):=by
 refine⟨λj I=>?_,λj I=>by rw[fS];exact h.free j I⟩;by_cases e:j=i
 ·subst e;rw[if_pos rfl];exact bI _ _ _ (h.cell j I)
 ·rw[if_neg e,bD _ _ _ _ (by intro K;simp only[Addr.mk.injEq]at K;omega)];exact h.cell j I
theorem ArrAt.lt{f:Nat->Value}(h:ArrAt w k N f)(I:0 < N):k < w.heap.size:=bL w _ (h.cell 0 I)
theorem ArrAt.move{f:Nat->Value}(h:ArrAt w k N f)(hb:w'.heap[k]?=w.heap[k]?):ArrAt w' k N f:=
 ⟨λj I=>(bF (w:=w) (a:=⟨k,j,none⟩) hb).trans (h.cell j I),λj I=>(World.frozen?_of_block (w:=w) (a:=⟨k,j,none⟩) hb).trans (h.free j I)⟩
theorem qz(w:World)(N:Nat)(f:Nat->Value)(t:TypeId):ArrAt (w.alloc (.cells (zG N f).toArray t)) w.heap.size N f:=by
 have hb:=heap_alloc_new w (.cells (zG N f).toArray t);refine⟨λj I=>?_,λj I=>?_⟩
 ·rw[cell_of_row _ _ _ _ _ _ hb];simpa using V9 I
 ·unfold World.frozen?;rw[hb];simp
def zg(a b:Nat)(v:Int)(j:Nat):Int:=if a<=j/\j < b then v else 0
def qJ(a b:Nat)(v:Int):List Value:=zG 20 (λj=>.int .i64 (zg a b v j))
theorem Zj:(Tryz.prog.info? 108).map (·.size)=some 20:=by kernel_rfl
theorem Jl(w:World):(Instr.alloc 108 true (.tuple #[])).run Tryz.prog w=.ok (.pointer (some ⟨w.heap.size,0,none⟩)) (w.alloc (.cells (zG 20 (λ_=>.int .i64 0)).toArray 108)):=by kernel_rfl
theorem qAW{op:Oper}{a:Act}{K:Act->World->Prop}{Q:Exit->Act->World->Prop}(I:op.op=.alloc 108)
 (h:K (a.put op.dst (.pointer (some ⟨w.heap.size,0,none⟩))) (w.alloc (.cells (zG 20 (λ_=>.int .i64 0)).toArray 108))):op.wp Tryz.prog a w K Q:=by
 unfold Oper.wp execOp;simp only[I,Sem.run_bind,Sem.run_pure,Result.andThen_ok,Jl];exact h
theorem je{ops:Array Oper}{rest:List Oper}{op:Oper}{a:Act}{Q:Exit->Act->World->Prop}(I:op.guard=none)(K:op.op=.alloc 108)
 (h:wpList Tryz.prog ops Q rest (a.put op.dst (.pointer (some ⟨w.heap.size,0,none⟩))) (w.alloc (.cells (zG 20 (λ_=>.int .i64 0)).toArray 108))):wpList Tryz.prog ops Q (op::rest) a w:=
 wpList_plain I λ_ M=>qAW K (M _ _ h)
section
variable {w:World} {k m n:Nat} {C:Nat->Nat->Rat} {B:Nat->Nat} {bar:Nat->Bool}
def cellsOf(w:World)(k:Nat):List Value:=(List.range 350).map λo=>(w.cell? ⟨k,o,none⟩).getD undef
theorem xT(w:World)(k:Nat):(cellsOf w k).length=350:=by simp[cellsOf]
theorem Qv(h:SxAt w k m n C B bar)(K:o < 350):(cellsOf w k)[o]?=w.cell? ⟨k,o,none⟩:=by
 obtain⟨v,M,_⟩:=h.lay.one o K;have I:w.cell? ⟨k,o,none⟩=some v:=M;unfold cellsOf;rw[bN,List.getElem?_range K];simp[I]
theorem uA(h:SxAt w k m n C B bar):w.rangeAt k 0 (cellsOf w k):=by
 intro j v hv;have I:j < 350:=by rw[<-xT w k];exact(List.getElem?_eq_some_iff.1 hv).1
 rw[Qv h I]at hv;rw[Nat.zero_add];exact hv
def IsSx(V:Array Value)(m n:Nat)(C:Nat->Nat->Rat)(B:Nat->Nat)(bar:Nat->Bool):Prop:=V.size=350/\Lay (λo=>V[o]?) m n C B bar
theorem Xb(h:SxAt w k m n C B bar):IsSx (cellsOf w k).toArray m n C B bar:=by
 have I:∀o,o < 350->(cellsOf w k).toArray[o]?=w.cell? ⟨k,o,none⟩:=λo M=>by simpa using Qv h M
 have O:=h.lay.mle;have U:=h.lay.nle;refine⟨by simp[xT],⟨?_,?_,λi j hi K=>?_,λi j hi K=>?_,λi hi=>?_,λj K=>?_,λo M=>?_,O,U⟩⟩
 ·show _=_;rw[I 0 Oo];exact h.lay.rows
 ·show _=_;rw[I 1 Oo];exact h.lay.cols
 ·show _=_;rw[I _ Oo];exact h.lay.num i j hi K
 ·show _=_;rw[I _ Oo];exact h.lay.den i j hi K
 ·show _=_;rw[I _ Oo];exact h.lay.bas i hi
 ·show _=_;rw[I _ Oo];exact h.lay.bars j K
 ·obtain⟨v,V,h2⟩:=h.lay.one o M;exact⟨v,(I o M).trans V,h2⟩
theorem IsSx.one{V:Array Value}(h:IsSx V m n C B bar):V.all (·.oneCell')=true:=by
 rw[Array.all_eq_true_iff_forall_mem];intro v hv;obtain⟨j,M,e⟩:=Array.mem_iff_getElem.1 hv;have K:j < 350:=by rw[<-h.1];exact M
 obtain⟨u,O,U⟩:=h.2.one j K;have I:V[j]?=some u:=O;rw[Array.getElem?_eq_getElem M,e]at I;simp only[Option.some.injEq]at I;rw[I];exact U
theorem IsSx.stored{V:Array Value}(h:IsSx V m n C B bar)(O:w.there b 0 350):SxAt (w.setCells b 0 V.toList) b m n C B bar:=by
 have hl:V.toList.length=350:=by simpa using h.1
 have hr:=World.rangeAt_setCells_same w b 0 V.toList (by rw[hl];exact O)
 have I:∀o,o < 350->∀v,V[o]?=some v->(w.setCells b 0 V.toList).cell? ⟨b,o,none⟩=some v:=λo _ v hv=>by
  have:=hr o v (by simpa using hv);rwa[Nat.zero_add]at this
 have U:=h.2.mle;have hn:=h.2.nle;refine⟨⟨I 0 Oo _ h.2.rows,I 1 Oo _ h.2.cols,λi j hi K=>I _ Oo _ (h.2.num i j hi K),λi j hi K=>I _ Oo _ (h.2.den i j hi K),λi hi=>I _ Oo _ (h.2.bas i hi),λj K=>I _ Oo _ (h.2.bars j K),λo M=>?_,U,hn⟩,λo M=>?_⟩
 ·obtain⟨v,h1,h2⟩:=h.2.one o M;exact⟨v,I o M v h1,h2⟩
 ·have:=(World.there_setCells O b 0 V.toList o M).2;rwa[Nat.zero_add]at this
theorem SxAt.setBas(h:SxAt w k m n C B bar)(hi:i < m)(b:Nat):SxAt (w.setCell ⟨k,322+i,none⟩ (.int .i64 (b:Nat))) k m n C (λK=>if K=i then b else B K) bar:=by
 have hn:=h.lay.nle;have hm:=h.lay.mle
 have I:∀o,o≠322+i->(w.setCell ⟨k,322+i,none⟩ (.int .i64 (b:Nat))).cell? ⟨k,o,none⟩=w.cell? ⟨k,o,none⟩:=λo ho=>
  bD _ _ _ _ (by intro e;simp only[Addr.mk.injEq]at e;omega)
 have M:(w.setCell ⟨k,322+i,none⟩ (.int .i64 (b:Nat))).cell? ⟨k,322+i,none⟩=some (.int .i64 (b:Nat)):=bI _ _ _ (h.lay.bas i hi);refine⟨⟨?_,?_,λK V O U=>?_,λK V O U=>?_,λK O=>?_,λV U=>?_,λo ho=>?_,hm,hn⟩,λo ho=>by rw[fS];exact h.free o ho⟩
 ·show World.cell? _ ⟨k,0,none⟩=_;rw[I 0 Oo];exact h.lay.rows
 ·show World.cell? _ ⟨k,1,none⟩=_;rw[I 1 Oo];exact h.lay.cols
 ·show World.cell? _ ⟨k,2+K*40+V*2,none⟩=_;rw[I _ Oo];exact h.lay.num K V O U
 ·show World.cell? _ ⟨k,2+K*40+V*2+1,none⟩=_;rw[I _ Oo];exact h.lay.den K V O U
 ·show World.cell? _ ⟨k,322+K,none⟩=_;by_cases e:K=i
  ·subst e;rw[M,if_pos rfl]
  ·rw[I _ Oo,if_neg e];exact h.lay.bas K O
 ·show World.cell? _ ⟨k,330+V,none⟩=_;rw[I _ Oo];exact h.lay.bars V U
 ·by_cases e:o=322+i
  ·subst e;exact⟨_,M,rfl⟩
  ·obtain⟨v,h1,h2⟩:=h.lay.one o ho;exact⟨v,(I o e).trans h1,h2⟩
end
theorem xl{N:Nat}{a:World}{b:Nat}(hb:N<=b):∀(vs:List Value) (o:Nat) (w:World),Below N a w->Below N a (w.setCells b o vs)
 |[],_,_,h=>h
 |v::r,o,w,h=>by
  rw[World.setCells];exact xl hb r (o+1) _ (h.setCell hb v)
theorem Qo{P:Program}{fn:Func}{p:Tmp}{ty:TypeId}(h:fn.results=#[.cell p ty])(tmps:Array Value)(w:World)(g:Nat)(cs:List Value)(d:TypeDesc)
 (hp:tmps.getD p undef=.pointer (some ⟨g,0,none⟩)) (hr:w.rangeAt g 0 cs) (K:P.underlying ty=some d) (M:d.isRow=true) (hi:(P.info? ty).map (·.size)=some cs.length):
 (results fn tmps).run P w=.ok (.agg cs.toArray) w:=by
 have I:tmps[p]?.getD undef=.pointer (some ⟨g,0,none⟩):=by simpa using hp
 simp[results,h,I,asAddr,run_loadVar_mid w g 0 ty cs d hr K M hi]
theorem xE(w:World)(a b:Nat)(v:Int)(hb:b<=20):
 Cl 92 #[.int .i64 a,.int .i64 b,.int .i64 v] w λe w'=>e=.returned (.agg (qJ a b v).toArray)/\Bl w w':=by
 go_enter Tryz.func92,Tryz.ntmps92
 go_wp2_with (first|(refine je rfl rfl ?_))
 have h0:=qz w 20 (λ_=>.int .i64 0) 108;have h1:=qz (w.alloc (.cells (zG 20 (λ_=>.int .i64 0)).toArray 108)) 20 (λ_=>.int .i64 0) 108;have M:((w.alloc (.cells (zG 20 (λ_=>.int .i64 0)).toArray 108)).alloc (.cells (zG 20 (λ_=>.int .i64 0)).toArray 108)).there w.heap.size 0 20:=World.there_alloc h0.there _;rw[show(w.alloc (.cells (zG 20 (λ_=>.int .i64 0)).toArray 108)).heap.size=w.heap.size+1 by simp]at h1;have O:Bl w ((w.alloc (.cells (zG 20 (λ_=>.int .i64 0)).toArray 108)).alloc (.cells (zG 20 (λ_=>.int .i64 0)).toArray 108)):=((bM _ _).alloc (bK _) _).alloc Ss _;generalize (w.alloc (.cells (zG 20 (λ_=>.int .i64 0)).toArray 108)).alloc (.cells (zG 20 (λ_=>.int .i64 0)).toArray 108)=W at *;clear h0;go_loopw [8] (λt wr=>∃j:Nat,a<=j/\(j<=b∨j=a)/\t=.int .i64 j/\Bl w wr/\wr.there w.heap.size 0 20/\ArrAt wr (w.heap.size+1) 20 (λi=>.int .i64 (zg a j v i))) (λt _=>b - (intOf t).toNat)
 case atStart=>exact⟨a,bK _,Or.inr rfl,rfl,O,M,⟨λj hj=>(h1.cell j hj).trans (by unfold zg;rw[if_neg Oo]),h1.free⟩⟩
 case round=>
  obtain⟨j,hj,a3,rfl,U,V,I⟩:=hrel;clear O M h1;by_cases a4:j < b
  ·have i1:(j:Int) < (b:Int):=Oo;have i2:(j:Int) < 20:=Oo;have c1:wr.cell? ⟨w.heap.size+1,j,none⟩=some (.int .i64 (zg a j v j)):=I.cell j Oo;have f1:wr.frozen? ⟨w.heap.size+1,j,none⟩=false:=I.free j Oo;go_wp2_with fail
   go_roundw
   case rel=>
    refine⟨j+1,Oo,Oo,Gg,U.setCell Ss _,World.there_setCells V (w.heap.size+1) j [.int .i64 v],⟨λi hi=>((I.set Oo _).cell i hi).trans ?_,(I.set Oo _).free⟩⟩;unfold zg;by_cases e:i=j
    ·rw[if_pos e,if_pos Oo]
    ·rw[if_neg e];by_cases e2:a<=i/\i < j
     ·rw[if_pos e2,if_pos Oo]
     ·rw[if_neg e2,if_neg Oo]
   case measure=>simp[intOf];omega
  ·have i1:¬((j:Int) < (b:Int)):=Oo
   have K:(zG 20 (λi=>.int .i64 (zg a j v i)))=qJ a b v:=by
    unfold qJ zG;refine List.map_congr_left (λi hi=>?_);unfold zg;by_cases e:a<=i/\i < j
    ·rw[if_pos e,if_pos Oo]
    ·rw[if_neg e,if_neg Oo]
   have HR:Hid (wr.rangeAt (w.heap.size+1) 0 (qJ a b v)):=by rw[<-K];exact I.range
   have hlen:(qJ a b v).length=20:=vL _ _
   have HT:Hid (wr.there w.heap.size 0 (qJ a b v).toArray.size):=by
    rw[show(qJ a b v).toArray.size=20 by simpa using hlen];exact V
   have HI:Hid ((Tryz.prog.info? 108).map (·.size)=some (qJ a b v).length):=by
    show _=_;rw[hlen];exact Zj
   have HJ:Hid ((Tryz.prog.info? 108).map (·.size)=some (qJ a b v).toArray.size):=by
    show _=_;rw[show(qJ a b v).toArray.size=20 by simpa using hlen];exact Zj
   have HO:Hid ((qJ a b v).toArray.all (·.oneCell')=true):=all_oneCell_toArray (λu hu=>by
    obtain⟨i,_,rfl⟩:=List.mem_map.1 hu;rfl)
   clear K;generalize hcz:qJ a b v=cz at *;go_wp2_with (first|(refine wpList_load_mid rfl 108 _ rfl (w.heap.size+1) 0 (by rfl) cz _ (by exact HR.out) Tryz.underlying108 (by rfl) (by exact HI.out) ?_)|(refine wpList_store_mid rfl 108 _ _ rfl w.heap.size 0 cz.toArray (by rfl) (by rfl) (by exact HT.out) (by exact HJ.out) (by exact HO.out) ?_))
   have a2:(wr.setCells w.heap.size 0 cz.toArray.toList).rangeAt w.heap.size 0 cz:=by
    have:=World.rangeAt_setCells_same wr w.heap.size 0 cz.toArray.toList (by have:=HT.out;simpa using this);simpa using this
   refine bodyPost_ret (v:=.agg cz.toArray) (Qo Tryz.results92 _ _ w.heap.size cz _ (by rfl) a2 Tryz.underlying108 (by rfl) HI.out) rfl ⟨rfl,xl (bK _) _ _ _ U⟩
def part(cost:Nat->Int)(C:Nat->Nat->Rat)(B:Nat->Nat)(j i:Nat):Rat:=((cost j:Int):Rat) - Cov.sm i (λi'=>((cost (B i'):Int):Rat)*C i' j)
def xp(cost:Nat->Int)(C:Nat->Nat->Rat)(B:Nat->Nat)(m j:Nat):Nat->Nat->Rat:=λa b=>if a=m/\b < j then part cost C B b m else C a b
theorem qBl{cost:Nat->Int}(h:cost (B i)=0):part cost C B j (i+1)=part cost C B j i:=by
 unfold part;show _ - (Cov.sm i _+((cost (B i):Int):Rat)*C i j)=_;rw[h];have:((0:Int):Rat)=0:=rfl;rw[this];grind
theorem qBm{cost:Nat->Int}:part cost C B j (i+1)=part cost C B j i - C i j*((cost (B i):Int):Rat):=by
 unfold part;show _ - (Cov.sm i _+((cost (B i):Int):Rat)*C i j)=_;grind
theorem qFW{n:Int}(h:n.natAbs<=1):Sm 1 ((n:Int):Rat):=by
 refine⟨?_,?_⟩
 ·simpa using h
 ·simp
theorem Kb.own(h:Kb k w w'){a:Nat}(K:w.heap.size<=a)(o:Nat)(v:Value):Kb k w (w'.setCell ⟨a,o,none⟩ v):=
 ⟨h.os,h.tape,h.output,by simpa[World.setCell]using h.size,λb hb I=>(bE _ _ _ _ (by simp;omega)).trans (h.block b hb I)⟩
theorem Kb.step{b:World}(h:Kb k w a)(g:Bl a b):Kb k w b:=h.trans (Kb.of_below g)
structure RatAt(w:World)(p:Nat)(q:Rat):Prop where
 num:w.cell? ⟨p,0,none⟩=some (.int .i64 q.num)
 den:w.cell? ⟨p,1,none⟩=some (.int .i64 q.den)
 f0:w.frozen? ⟨p,0,none⟩=false
 f1:w.frozen? ⟨p,1,none⟩=false
theorem RatAt.set{p:Nat}{q:Rat}(h:RatAt w p q)(r:Rat):RatAt ((w.setCell ⟨p,0,none⟩ (.int .i64 r.num)).setCell ⟨p,1,none⟩ (.int .i64 r.den)) p r:=
 ⟨by rw[bD _ _ _ _ Ss,bI _ _ _ h.num],bI _ _ _ (by rw[bD _ _ _ _ Ss];exact h.den),
  by rw[fS,fS];exact h.f0,by rw[fS,fS];exact h.f1⟩
theorem Jr(w:World)(q:Rat)(t:TypeId):RatAt (w.alloc (.cells #[.int .i64 q.num,.int .i64 q.den] t)) w.heap.size q:=
 ⟨by simp[go_sem],by simp[go_sem],by simp[go_sem],by simp[go_sem]⟩
theorem ArrAt.below{f:Nat->Value}(h:ArrAt w k N f)(I:0 < N)(hb:Bl w w'):ArrAt w' k N f:=h.move (hb.block k (h.lt I))
theorem UI(w:World)(c:Int)(t:TypeId):RatAt (w.alloc (.cells #[.int .i64 c,.int .i64 1] t)) w.heap.size (c:Rat):=Jr w (c:Rat) t
theorem xg(n:Int)(w:World):
 Cl 91 #[.int .i64 n] w λe w'=>e=.returned (.agg #[.int .i64 n,.int .i64 1])/\Bl w w':=XY n w
theorem qFX(p:Rat)(c:Int)(w:World){B C:Nat}(hp:Sm B p)(hq:Sm C (c:Rat))(h:B*C<=4500000000000000000):
 Cl 189 #[.agg #[.int .i64 p.num,.int .i64 p.den],.agg #[.int .i64 c,.int .i64 1]] w λe w'=>e=.returned (.agg #[.int .i64 (p*(c:Rat)).num,.int .i64 (p*(c:Rat)).den])/\Bl w w':=qBj p (c:Rat) w hp hq h
structure PrC(w wr:World)(k m n:Nat)(C:Nat->Nat->Rat)(B:Nat->Nat)(bar:Nat->Bool)(cost:Nat->Int):Prop where
 kb:Kb k w wr
 sx:SxAt wr k m n C B bar
 ar:ArrAt wr w.heap.size 20 (λj=>.int .i64 (cost j))
theorem PrC.below{cost:Nat->Int}(h:PrC w wr k m n C B bar cost)(hb:Bl wr w'):PrC w w' k m n C B bar cost:=
 ⟨h.kb.step hb,h.sx.below hb,h.ar.below Oo hb⟩
theorem PrC.alloc{cost:Nat->Int}(h:PrC w wr k m n C B bar cost)(o:Obj):PrC w (wr.alloc o) k m n C B bar cost:=
 h.below ((bM _ _).alloc (bK _) _)
theorem PrC.own{cost:Nat->Int}(h:PrC w wr k m n C B bar cost){a:Nat}(v:Value)(I:w.heap.size < a)(K:k < w.heap.size):PrC w (wr.setCell ⟨a,o,none⟩ v) k m n C B bar cost:=
 ⟨h.kb.own Oo _ _,h.sx.far _ Oo,h.ar.move (bE _ _ _ _ (by simp;omega))⟩
theorem Js(w:World)(k m n:Nat)(C:Nat->Nat->Rat)(B:Nat->Nat)(bar:Nat->Bool)(h:SxAt w k m n C B bar)(cost:Nat->Int)(K:∀j,(cost j).natAbs<=1)(d9:∀i,i < m->B i < n)
 (e0:∀a b,a<=m->b<=n->Sm 41000 (C a b)) (M:∀j i,j<=n->i<=m->Sm 41000 (part cost C B j i)):
 Cl 93 #[.pointer (some ⟨k,0,none⟩),.agg (zG 20 (λj=>.int .i64 (cost j))).toArray] w λe w'=>e=.returned (.tuple #[])/\Kb k w w'/\SxAt w' k m n (xp cost C B m (n+1)) B bar:=by
 have hn:=h.lay.nle;have hm:=h.lay.mle;have a6:=h.lt;have S1:=hid e0;have P1:=hid M;have K1:=hid K;have N1:=hid d9;clear e0 M K d9;go_enter Tryz.func93,Tryz.ntmps93
 go_upto_region 1 with fail
 have O:PrC w (w.alloc (.cells (zG 20 (λj=>.int .i64 (cost j))).toArray 108)) k m n C B bar cost:=⟨Kb.of_below ((bM _ _).alloc (bK _) _),h.alloc _,qz w 20 _ _⟩;generalize w.alloc (.cells (zG 20 (λj=>.int .i64 (cost j))).toArray 108)=W at *;have a8:W.cell? ⟨k,1,none⟩=some (.int .i64 n):=O.sx.lay.cols;go_wp2_with fail
 go_loopw [13] (λt wr=>∃j:Nat,j<=n+1/\t=.int .i64 j/\PrC w wr k m n (xp cost C B m j) B bar cost) (λt _=>n+1 - (intOf t).toNat)
 case atStart=>exact⟨0,nZ _,rfl,O.kb,O.sx.congr (λ_ _ _ _=>if_neg Oo) (λ_ _=>rfl) (λ_ _=>rfl),O.ar⟩
 case round=>
  obtain⟨j,hj,rfl,hP⟩:=hrel;clear O a8;by_cases g8:j < n+1
  ·have i1:(j:Int) < (n:Int)+1:=Oo;have i2:(j:Int) < 20:=Oo;have c1:wr.cell? ⟨w.heap.size,j,none⟩=some (.int .i64 (cost j)):=hP.ar.cell j Oo;go_wp2_with fail
   refine(xg (cost j) _).mono ?_;rintro e w1 ⟨rfl,a9⟩;have b0:=(hP.below a9).alloc (.cells #[.int .i64 (cost j),.int .i64 1] 66);have e1:=UI w1 (cost j) 66;have a7:w.heap.size < w1.heap.size:=bV (hP.ar.lt Oo) a9.size;clear hP c1;go_upto_region 5 with fail
   generalize hp:w1.heap.size=p at *;generalize w1.alloc (.cells #[.int .i64 (cost j),.int .i64 1] 66)=W1 at *;clear hp a9;clear w1;have b7:W1.cell? ⟨k,0,none⟩=some (.int .i64 m):=b0.sx.lay.rows;obtain⟨wo,rfl⟩:∃wo:World,wo=W1:=⟨_,rfl⟩;go_wp2_with fail
   go_loopw [24] (λt wi=>∃i:Nat,i<=m/\t=.int .i64 i/\PrC w wi k m n (xp cost C B m j) B bar cost/\RatAt wi p (part cost C B j i)) (λt _=>m - (intOf t).toNat)
   case atStart=>exact⟨0,nZ _,rfl,b0,by unfold part;rw[show((cost j:Int):Rat) - Cov.sm 0 (λi'=>((cost (B i'):Int):Rat)*C i' j)=((cost j:Int):Rat)by show _ - (0:Rat)=_;grind];exact e1⟩
   case round=>
    obtain⟨i,hi,rfl,I,a4⟩:=hrel;clear b0 e1 b7;by_cases b9:i < m
    ·have i3:(i:Int) < (m:Int):=Oo;have i4:(i:Int) < 8:=Oo;have g9:B i < n:=N1.out i b9;have i5:((B i:Nat):Int) < 20:=Oo;have b1:wr.cell? ⟨k,322+i,none⟩=some (.int .i64 (B i:Nat)):=I.sx.lay.bas i b9;have b2:wr.cell? ⟨w.heap.size,B i,none⟩=some (.int .i64 (cost (B i))):=I.ar.cell (B i) Oo;by_cases hz:cost (B i)=0
     ·have e5:(cost (B i) != 0)=false:=by simpa using hz
      have HZ:=hid hz;clear hz;go_wp2_with fail
      go_roundw
      case rel=>exact⟨i+1,Oo,Gg,I,by rw[qBl HZ.out];exact a4⟩
      case measure=>simp[intOf];omega
     ·have e5:(cost (B i) != 0)=true:=by simpa using hz
      obtain⟨r1,r2,r3,r4⟩:=a4;have a1:wr.cell? ⟨k,2+i*40+j*2,none⟩=some (.int .i64 (xp cost C B m j i j).num):=I.sx.lay.num i j Oo Oo;have a2:wr.cell? ⟨k,2+i*40+j*2+1,none⟩=some (.int .i64 (xp cost C B m j i j).den):=I.sx.lay.den i j Oo Oo;rw[show xp cost C B m j i j=C i j from if_neg Oo]at a1 a2;have X1:=hid (S1.out i j Oo Oo);have X2:=hid (qFW (K1.out (B i)));have X3:=hid (X1.out.mul X2.out);have X4:=hid (P1.out j i Oo Oo);have e3:k < wr.heap.size:=I.sx.lt;have U:p < wr.heap.size:=bL wr _ r1;clear hz b1 b2;have b1:wr.cell? ⟨k,322+i,none⟩=some (.int .i64 (B i:Nat)):=I.sx.lay.bas i b9;have b2:wr.cell? ⟨w.heap.size,B i,none⟩=some (.int .i64 (cost (B i))):=I.ar.cell (B i) Oo;go_upto_region 10 with fail
      clear b1 b2;go_region_with (first|(go_at_call 91;refine(xg (cost (B i)) _).mono ?_;rintro e wA ⟨rfl,c7⟩;obtain⟨V,c8⟩:=xP c7;have a3:p < wA.heap.size:=bV U c7.size;have h0:wA.cell? ⟨k,2+i*40+j*2,none⟩=some (.int .i64 (C i j).num):=(V k _ e3).trans a1;have h1:wA.cell? ⟨k,2+i*40+j*2+1,none⟩=some (.int .i64 (C i j).den):=(V k _ e3).trans a2;have e6:wA.cell? ⟨p,0,none⟩=some (.int .i64 (part cost C B j i).num):=(V p 0 U).trans r1;have e7:wA.cell? ⟨p,1,none⟩=some (.int .i64 (part cost C B j i).den):=(V p 1 U).trans r2;have e8:wA.frozen? ⟨p,0,none⟩=false:=(c8 p 0 U).trans r3;have e9:wA.frozen? ⟨p,1,none⟩=false:=(c8 p 1 U).trans r4;clear V c8)|(go_at_call 189;refine(qFX (C i j) (cost (B i)) _ X1.out X2.out Dd).mono ?_;rintro e wB ⟨rfl,c9⟩;obtain⟨d0,d6⟩:=xP c9;have a5:p < wB.heap.size:=bV a3 c9.size;have f4:wB.cell? ⟨p,0,none⟩=some (.int .i64 (part cost C B j i).num):=(d0 p 0 a3).trans e6;have f7:wB.cell? ⟨p,1,none⟩=some (.int .i64 (part cost C B j i).den):=(d0 p 1 a3).trans e7;have f8:wB.frozen? ⟨p,0,none⟩=false:=(d6 p 0 a3).trans e8;have f9:wB.frozen? ⟨p,1,none⟩=false:=(d6 p 1 a3).trans e9;clear d0 d6)|(go_at_call 186;refine(Zo (part cost C B j i) (C i j*((cost (B i):Int):Rat)) _ X4.out X3.out Dd).mono ?_;rintro e wC ⟨rfl,e4⟩;obtain⟨d7,d8⟩:=xP e4;have q0:wC.cell? ⟨p,0,none⟩=some (.int .i64 (part cost C B j i).num):=(d7 p 0 a5).trans f4;have q1:wC.cell? ⟨p,1,none⟩=some (.int .i64 (part cost C B j i).den):=(d7 p 1 a5).trans f7;have q2:wC.frozen? ⟨p,0,none⟩=false:=(d8 p 0 a5).trans f8;have q3:wC.frozen? ⟨p,1,none⟩=false:=(d8 p 1 a5).trans f9;clear d7 d8))
      all_goals
       have g4:Bl wr wC:=bt (bt ((bM _ _).drew.trans c7) c9) e4
       have g5:=((I.below g4).own (a:=p) (o:=0) (.int .i64 (part cost C B j i - C i j*((cost (B i):Int):Rat)).num) a7 a6).own (a:=p) (o:=1) (.int .i64 (part cost C B j i - C i j*((cost (B i):Int):Rat)).den) a7 a6
       have g6:=(RatAt.mk q0 q1 q2 q3).set (part cost C B j i - C i j*((cost (B i):Int):Rat))
       go_wp2_with fail
       go_roundw
       case rel=>exact⟨i+1,Oo,Gg,g5,by rw[qBm];exact g6⟩
       case measure=>simp[intOf];omega
    ·obtain rfl:i=m:=Oo;have i3:¬((i:Int) < (i:Int)):=Oo;have g7:wr.cell? ⟨k,0,none⟩=some (.int .i64 i):=I.sx.lay.rows;have a1:wr.cell? ⟨k,2+i*40+j*2,none⟩=some (.int .i64 (xp cost C B i j i j).num):=I.sx.lay.num i j Oo Oo;have a2:wr.cell? ⟨k,2+i*40+j*2+1,none⟩=some (.int .i64 (xp cost C B i j i j).den):=I.sx.lay.den i j Oo Oo;have g1:wr.frozen? ⟨k,2+i*40+j*2,none⟩=false:=I.sx.free _ Oo;have g2:wr.frozen? ⟨k,2+i*40+j*2+1,none⟩=false:=I.sx.free _ Oo;have i6:(i:Int) < 8:=Oo;have r1:=a4.num;have r2:=a4.den;go_upto_region 12 with fail
     go_region
     go_wp2_with fail
     go_roundw
     case rel=>
      refine⟨j+1,Oo,Gg,?_,?_,?_⟩
      ·exact((I.kb.set _ _).set _ _).drew
      ·refine((I.sx.setNum (bK _) (show j<=n by omega) (part cost C B j i)).congr (λa b _ _=>?_) (λ_ _=>rfl) (λ_ _=>rfl)).drew;unfold xp;by_cases e:a=i/\b=j
       ·rw[if_pos e,if_pos Oo,e.2]
       ·rw[if_neg e];by_cases e2:a=i/\b < j
        ·rw[if_pos e2,if_pos Oo]
        ·rw[if_neg e2,if_neg Oo]
      ·exact I.ar.move (by show((wr.setCell _ _).setCell _ _).heap[w.heap.size]?=_;rw[bE _ _ _ _ (by simp;omega),bE _ _ _ _ (by simp;omega)])
     case measure=>simp[intOf];omega
  ·obtain rfl:j=n+1:=Oo;have i1:¬((n:Int)+1 < (n:Int)+1):=Oo;go_wp2;go_end0
   exact⟨rfl,hP.kb,hP.sx⟩
end Go.Proofs.YtkaipapdlnojiaaGreat
