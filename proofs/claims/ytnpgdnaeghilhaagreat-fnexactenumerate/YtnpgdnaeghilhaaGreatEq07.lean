import Derived.Deep.Cut
import Derived.DeepKeys4
import Derived.Maps.OwnOps
import Derived.Maps.OwnSet
import Derived.Maps.RangeWalk
import Derived.Maps.Views
import Derived.Test.YtnpgdnaeghilhaaGreatEq04
import Derived.Test.YtnpgdnaeghilhaaGreatEq01
set_option maxHeartbeats 40000000
set_option maxRecDepth 1000000
namespace Go.Proofs.YtnpgdnaeghilhaaGreat
open Go.Proofs.Tryz Go.RowKit
variable {a l x:LI}{N b i j k m n o g p r I:Nat}{bar:NB}{B:NN}{C:NQ}{v vl vv vr:Value}{w w' wr w1 w2 W W':World}{cost:Nat->Int}
section
variable {w:World} {k m n:Nat} {C:NQ} {B:NN} {bar:NB}
def cellsOf(w:World)(k:Nat):LV:=(List.range 350).map λo=>(w.cell? (az k o)).getD undef
theorem yD w k:(cellsOf w k).length=350:=by simp[cellsOf]
theorem Xl(h:SxAt w k m n C B bar)(ho:o<350):(cellsOf w k)[o]?=w.cell? (az k o):=by
 have⟨v,K,_⟩:=h.lay.one o ho;have I:=K;unfold cellsOf;rw[bK,List.getElem?_range ho];simp[I]
theorem jS(h:SxAt w k m n C B bar):w.rangeAt k 0 (cellsOf w k):=by
 intro j v hv;have I:j<350:=by rw[<-yD w k];exact(List.getElem?_eq_some_iff.1 hv).1
 rw[Xl h I]at hv;rw[cU];exact hv
def IsSx(V:AV)(m n:Nat)(C:NQ)(B:NN)(bar:NB):Prop:=V.size=350/\Lay (λo=>V[o]?) m n C B bar
theorem Vs(h:SxAt w k m n C B bar):IsSx (cellsOf w k).toArray m n C B bar:=by
 have I:∀o,o<350->(cellsOf w k).toArray[o]?=w.cell? (az k o):=λo ho=>by simpa using Xl h ho
 have M:=h.lay.mle;have O:=h.lay.nle;refine⟨by simp[yD],⟨?_,?_,λi j hi K=>?_,λi j hi K=>?_,λi hi=>?_,λj K=>?_,λo ho=>?_,M,O⟩⟩;show _=_;rw[I 0 Oo];exact h.lay.rows;show _=_;rw[I 1 Oo];exact h.lay.cols;show _=_;rw[I _ Oo];exact h.lay.num i j hi K;show _=_;rw[I _ Oo];exact h.lay.den i j hi K;show _=_;rw[I _ Oo];exact h.lay.bas i hi;show _=_;rw[I _ Oo];exact h.lay.bars j K;have⟨v,V,h2⟩:=h.lay.one o ho;exact⟨v,(I o ho).trans V,h2⟩
theorem IsSx.one{V}(h:IsSx V m n C B bar):V.all (·.oneCell')=true:=by
 rw[Array.all_eq_true_iff_forall_mem];intro v hv;have⟨j,M,e⟩:=Array.mem_iff_getElem.1 hv
 have⟨u,O,h2⟩:=h.2.one j (by rw[<-h.1];exact M);have I:=O;rw[dC M,e]at I;simp only[oI]at I;rw[I];exact h2
theorem IsSx.stored{V}(h:IsSx V m n C B bar)(M:w.there b 0 350):SxAt (w.setCells b 0 V.toList) b m n C B bar:=by
 have hl:V.toList.length=350:=by simpa using h.1
 have I:∀o,o<350->∀v,V[o]?=some v->aC (w.setCells b 0 V.toList) b o v:=λo _ v hv=>by
  have:=(World.rangeAt_setCells_same w b 0 V.toList (by rw[hl];exact M)) o v (by simpa using hv);rwa[cU]at this
 have hm:=h.2.mle;have hn:=h.2.nle;refine⟨⟨I 0 Oo _ h.2.rows,I 1 Oo _ h.2.cols,λi j hi K=>I _ Oo _ (h.2.num i j hi K),λi j hi K=>I _ Oo _ (h.2.den i j hi K),λi hi=>I _ Oo _ (h.2.bas i hi),λj K=>I _ Oo _ (h.2.bars j K),λo ho=>?_,hm,hn⟩,λo ho=>?_⟩;have⟨v,h1,h2⟩:=h.2.one o ho;exact⟨v,I o ho v h1,h2⟩;have:=(World.there_setCells M b 0 V.toList o ho).2;rwa[cU]at this
theorem SxAt.setBas(h:SxAt w k m n C B bar)(hi:i<m)b:SxAt (w.setCell (az k (322+i)) (ai (b:Nat))) k m n C (λK=>if K=i then b else B K) bar:=by
 have hn:=h.lay.nle;have hm:=h.lay.mle;have I:∀o,o≠322+i->(sC w k (322+i) (ai (b:Nat))).cell? (az k o)=w.cell? (az k o):=λo ho=>
  eE Nq
 have M:aC (sC w k (322+i) (ai (b:Nat))) k (322+i) (ai (b:Nat)):=eJ (h.lay.bas i hi);refine⟨⟨?_,?_,λK j' O V=>?_,λK j' O V=>?_,λK O=>?_,λj' V=>?_,λo ho=>?_,hm,hn⟩,λo ho=>by rw[fS];exact h.free o ho⟩;show World.cell? _ (az k 0)=_;rw[I 0 Oo];exact h.lay.rows;show World.cell? _ (az k 1)=_;rw[I 1 Oo];exact h.lay.cols;show World.cell? _ (az k (2+K*40+j'*2))=_;rw[I _ Oo];exact h.lay.num K _ O V;show World.cell? _ (az k (2+K*40+j'*2+1))=_;rw[I _ Oo];exact h.lay.den K _ O V
 .show World.cell? _ (az k (322+K))=_;by_cases e:K=i;subst e;rw[M,fE rfl];rw[I _ Oo,fF e];exact h.lay.bas K O
 show World.cell? _ (az k (330+j'))=_;rw[I _ Oo];exact h.lay.bars _ V;by_cases e:o=322+i;subst e;exact⟨_,M,rfl⟩;have⟨v,h1,h2⟩:=h.lay.one o ho;exact⟨v,(I o e).trans h1,h2⟩
end
theorem yd{a}(hb:N<=b):∀(vs:LV) (o:Nat) (w:World),Below N a w->Below N a (w.setCells b o vs)
 |[],_,_,h=>h
 |v::r,o,w,h=>by
  rw[World.setCells];exact yd hb r (o+1) _ (h.setCell hb v)
theorem Xe{P fn}{p:Tmp}{ty}(h:fn.results=#[.cell p ty]){tmps:AV}{cs:LV}{d}
 (K:tmps.getD p undef=.pointer (some (az g 0))) (M:w.rangeAt g 0 cs) (O:P.underlying ty=some d) (hd:d.isRow=true) (hi:(P.info? ty).map (·.size)=some cs.length):
 (results fn tmps).run P w=.ok (.agg cs.toArray) w:=by
 have I:tmps[p]?.getD undef=.pointer (some (az g 0)):=by simpa using K
 simp[results,h,I,asAddr,run_loadVar_mid w g 0 ty cs d M O hd hi]
theorem xl w(a b:Nat)v(hb:b<=20):
 aG 213 #[ai a,ai b,ai v] w (.agg (qR a b v).toArray):=by
 go_enter func213,ntmps213;go_wp2_with (refine QR rfl rfl ?_);have h1:=qj (w.alloc (.cells (zL 20 (λ_=>ai 0)).toArray 253)) 20 (λ_=>ai 0) 253;have M:((w.alloc (.cells (zL 20 (λ_=>ai 0)).toArray 253)).alloc (.cells (zL 20 (λ_=>ai 0)).toArray 253)).there w.1.size 0 20:=World.there_alloc (qj w 20 (λ_=>ai 0) 253).there _;rw[show(w.alloc (.cells (zL 20 (λ_=>ai 0)).toArray 253)).1.size=w.1.size+1 by simp]at h1;have O:Bl w ((w.alloc (.cells (zL 20 (λ_=>ai 0)).toArray 253)).alloc (.cells (zL 20 (λ_=>ai 0)).toArray 253)):=(aK).alloc Ss _;generalize (w.alloc (.cells (zL 20 (λ_=>ai 0)).toArray 253)).alloc (.cells (zL 20 (λ_=>ai 0)).toArray 253)=W at *;go_loopw [8] (λt wr=>∃j:Nat,a<=j/\(j<=b\/j=a)/\t=ai j/\Bl w wr/\wr.there w.1.size 0 20/\ArrAt wr (w.1.size+1) 20 (λi=>ai (xh a j v i))) (λt _=>b-(intOf t).toNat);exact⟨a,eA,.inr rfl,rfl,O,M,⟨λj hj=>(h1.cell j hj).trans (by unfold xh;rw[fF Oo]),h1.free⟩⟩;obtain⟨j,hj,hjb,rfl,V,a3,I⟩:=hrel;clear O M h1;by_cases a5:j<b
 .have i1:=aV a5;have i2:(j:Int)<20:=Oo;have c1:=I.cell j Oo;have f1:=I.free j Oo;go_wp2;go_roundw
  case rel=>
   refine⟨j+1,Oo,Oo,Gg,V.setCell Ss _,World.there_setCells a3 (w.1.size+1) j [ai v],⟨λi hi=>((I.set Oo _).cell i hi).trans ?_,(I.set Oo _).free⟩⟩;unfold xh;by_cases e:i=j;rw[fE e,fE Oo];rw[fF e];by_cases e2:a<=i/\i<j;rw[fE e2,fE Oo];rw[fF e2,fF Oo]
  case measure=>simp[intOf];omega
 have i1:¬((j:Int)<b):=Oo;have K:(zL 20 (λi=>ai (xh a j v i)))=qR a b v:=by
  unfold qR zL;refine cV (λi hi=>?_);unfold xh;by_cases e:a<=i/\i<j;rw[fE e,fE Oo];rw[fF e,fF Oo]
 have HR:Hh (wr.rangeAt (w.1.size+1) 0 (qR a b v)):=by rw[<-K];exact I.range
 have hlen:(qR a b v).length=20:=jA _ _;have HT:Hh (wr.there w.1.size 0 (qR a b v).toArray.size):=by
  rw[show(qR a b v).toArray.size=20 by simpa using hlen];exact a3
 have HI:Hh ((Tryz.prog.info? 253).map (·.size)=some (qR a b v).length):=by
  show _=_;rw[hlen];exact Yn
 have HJ:Hh ((Tryz.prog.info? 253).map (·.size)=some (qR a b v).toArray.size):=by
  show _=_;rw[show(qR a b v).toArray.size=20 by simpa using hlen];exact Yn
 have HO:Hh ((qR a b v).toArray.all (·.oneCell')=true):=all_oneCell_toArray (λu hu=>by
  obtain⟨i,_,rfl⟩:=cC.1 hu;rfl)
 clear K;generalize hcz:qR a b v=cz at *;go_wp2_with (first|refine wpList_load_mid rfl 253 _ rfl _ 0 Fl cz _ HR underlying253 Fl HI ?_|refine wpList_store_mid rfl 253 _ _ rfl _ 0 _ Fl Fl HT HJ HO ?_);have a4:(wr.setCells w.1.size 0 cz.toArray.toList).rangeAt w.1.size 0 cz:=by
  have:=World.rangeAt_setCells_same wr w.1.size 0 cz.toArray.toList (by have:=HT.o;simpa using this);simpa using this
 refine aU (Xe results213 Fl a4 underlying253 Fl HI) rfl ⟨rfl,yd eA _ _ _ V⟩
def part(cost:Nat->Int)(C:NQ)(B:NN)(j i:Nat):Rat:=((cost j:Int):Rat)-Cov.sm i (λi'=>((cost (B i'):Int):Rat)*C i' j)
def kG(cost:Nat->Int)(C:NQ)(B:NN)(m j:Nat):NQ:=λa b=>if a=m/\b<j then part cost C B b m else C a b
theorem qER(h:cost (B i)=0):part cost C B j (i+1)=part cost C B j i:=by
 unfold part;show _-(Cov.sm i _+((cost (B i):Int):Rat)*C i j)=_;rw[h];have:((0:Int):Rat)=0:=rfl;rw[this];grind
theorem qES:part cost C B j (i+1)=part cost C B j i-C i j*((cost (B i):Int):Rat):=by
 unfold part;show _-(Cov.sm i _+((cost (B i):Int):Rat)*C i j)=_;grind
theorem qIr{n}(h:n.natAbs<=1):Sm 1 ((n:Int):Rat):=by
 refine⟨?_,?_⟩;simpa using h;simp
theorem Kb.own(h:Kb k w w'){a}(K:w.1.size<=a)o v:Kb k w (w'.setCell (az a o) v):=
 ⟨h.os,h.tape,h.output,by simpa[World.setCell]using h.size,λb hb I=>(eG Sy).trans (h.block b hb I)⟩
theorem Kb.step{a b}(h:Kb k w a)(g:Bl a b):Kb k w b:=h.trans (Kb.of_below g)
structure RatAt(w:World)(p:Nat)(q:Rat):Prop where
 num:w.cell? (az p 0)=some (ai q.num)
 den:w.cell? (az p 1)=some (ai q.den)
 f0:w.frozen? (az p 0)=false
 f1:w.frozen? (az p 1)=false
theorem RatAt.set{q}(h:RatAt w p q)r:RatAt ((w.setCell (az p 0) (ai r.num)).setCell (az p 1) (ai r.den)) p r:=
 ⟨by rw[eE Ss,eJ h.num],eJ (by rw[eE Ss];exact h.den),
  by rw[fS,fS];exact h.f0,by rw[fS,fS];exact h.f1⟩
theorem qBv(w:World)q t:RatAt (w.alloc (.cells #[ai q.num,ai q.den] t)) w.1.size q:=
 ⟨Sg,Sg,Sg,Sg⟩
theorem ArrAt.below{f}(h:ArrAt w k N f)(I:0<N)(hb:Bl w w'):ArrAt w' k N f:=h.move (hb.block k (h.lt I))
theorem Kt(w:World)c t:RatAt (w.alloc (.cells #[ai c,ai 1] t)) w.1.size (c:Rat):=qBv w c t
theorem yX n:
 aG 212 #[ai n] w (.agg #[ai n,ai 1]):=Vo n w
theorem qIs{p}{c:Int}{B C}(I:Sm B p)(hq:Sm C (c:Rat))(h:B*C<=4500000000000000000):
 aG 276 #[.agg #[ai p.num,ai p.den],.agg #[ai c,ai 1]] w (.agg #[ai (p*(c:Rat)).num,ai (p*(c:Rat)).den]):=qEP p _ w I hq h
structure PrC(w wr:World)(k m n:Nat)(C:NQ)(B:NN)(bar:NB)(cost:Nat->Int):Prop where
 kb:Kb k w wr
 sx:SxAt wr k m n C B bar
 ar:ArrAt wr w.1.size 20 (λj=>ai (cost j))
theorem PrC.below(h:PrC w wr k m n C B bar cost)(hb:Bl wr w'):PrC w w' k m n C B bar cost:=
 ⟨h.kb.step hb,h.sx.below hb,h.ar.below Oo hb⟩
theorem PrC.alloc(h:PrC w wr k m n C B bar cost)o:PrC w (wr.alloc o) k m n C B bar cost:=
 h.below (aK)
theorem PrC.own(h:PrC w wr k m n C B bar cost){a}v(I:w.1.size<a)(K:k<w.1.size):PrC w (wr.setCell (az a o) v) k m n C B bar cost:=
 ⟨h.kb.own Oo _ _,h.sx.far _ Oo,h.ar.move (eG Sy)⟩
theorem qBw w k m n bar(h:SxAt w k m n C B bar)(K:∀j,(cost j).natAbs<=1)(d5:∀i,i<m->B i<n)
 (d6:∀a b,a<=m->b<=n->Sm 41000 (C a b)) (M:∀j i,j<=n->i<=m->Sm 41000 (part cost C B j i)):
 aF 214 #[.pointer (some (az k 0)),.agg (zL 20 (λj=>ai (cost j))).toArray] w (.tuple #[]) λw'=>Kb k w w'/\SxAt w' k m n (kG cost C B m (n+1)) B bar:=by
 have hn:=h.lay.nle;have hm:=h.lay.mle;have a7:=h.lt;change Hh _ at d6 M K d5;go_enter func214,ntmps214;go_upto_region 1 with fail;have O:PrC w (w.alloc (.cells (zL 20 (λj=>ai (cost j))).toArray 253)) k m n C B bar cost:=⟨Kb.of_below aK,h.alloc _,qj w _ _ _⟩;generalize w.alloc (.cells (zL 20 (λj=>ai (cost j))).toArray 253)=W at *;have a9:=O.sx.lay.cols;go_wp2;go_loopw [13] (λt wr=>∃j:Nat,j<=n+1/\t=ai j/\PrC w wr k m n (kG cost C B m j) B bar cost) (λt _=>n+1-(intOf t).toNat);exact⟨0,eC,rfl,O.kb,O.sx.congr (λ_ _ _ _=>fF Oo) (λ_ _=>rfl) (λ_ _=>rfl),O.ar⟩;obtain⟨j,hj,rfl,hP⟩:=hrel;clear O a9;by_cases g5:j<n+1
 .have i1:(j:Int)<n+1:=Oo;have i2:(j:Int)<20:=Oo;have c1:=hP.ar.cell j Oo;go_wp2_with fail;apply (yX (cost j)).mn;intro w1 b7;have b8:=(hP.below b7).alloc (.cells #[ai (cost j),ai 1] 210);have d7:=Kt w1 (cost j) 210;have a8:=bN (hP.ar.lt Oo) b7.size;clear hP c1;go_upto_region 5 with fail;generalize hp:w1.1.size=p,w1.alloc (.cells #[ai (cost j),ai 1] 210)=W1 at *;clear hp b7;clear w1;have b9:=b8.sx.lay.rows;obtain⟨wo,rfl⟩:=Ex W1;go_wp2;go_loopw [24] (λt wi=>∃i:Nat,i<=m/\t=ai i/\PrC w wi k m n (kG cost C B m j) B bar cost/\RatAt wi p (part cost C B j i)) (λt _=>m-(intOf t).toNat);exact⟨0,eC,rfl,b8,by unfold part;rw[show((cost j:Int):Rat)-Cov.sm 0 (λi'=>((cost (B i'):Int):Rat)*C i' j)=((cost j:Int):Rat)by show _-(0:Rat)=_;grind];exact d7⟩;obtain⟨i,hi,rfl,I,a5⟩:=hrel;clear b8 d7 b9;by_cases c7:i<m
  .have i3:=aV c7;have i4:(i:Int)<8:=Oo;have g6:=d5 i c7;have i5:((B i:Nat):Int)<20:=Oo;have b1:=I.sx.lay.bas i c7;have b2:=I.ar.cell (B i) Oo;by_cases hz:cost (B i)=0
   .have e0:(cost (B i) != 0)=false:=by simpa using hz
    have HZ:=ay hz;clear hz;go_wp2;go_roundw;exact⟨i+1,Oo,Gg,I,by rw[qER HZ.o];exact a5⟩;exact Im
   have e0:(cost (B i) != 0)=true:=by simpa using hz
   have⟨r1,r2,r3,r4⟩:=a5;have a1:=I.sx.lay.num i j Oo Oo;have a2:=I.sx.lay.den i j Oo Oo;rw[show kG cost C B m j i j=C i j from fF Oo]at a1 a2;have X1:=ay (d6 i j Oo Oo);have X2:=ay (qIr (K (B i)));have d8:=I.sx.lt;have V:p<wr.1.size:=bL _ _ r1;clear hz b1 b2;have b1:=I.sx.lay.bas i c7;have b2:=I.ar.cell (B i) Oo;go_upto_region 10 with fail;clear b1 b2;go_region_with (first|go_at_call 212;apply (yX (cost (B i))).mono;rintro e wA ⟨rfl,c8⟩;have⟨a3,c9⟩:=xi c8;have a4:=bN V c8.size;have g7:=(a3 k _ d8).trans a1;have g8:=(a3 k _ d8).trans a2;have e1:=(a3 p 0 V).trans r1;have e3:=(a3 p 1 V).trans r2;have e4:=(c9 p 0 V).trans r3;have e5:=(c9 p 1 V).trans r4;clear a3 c9|go_at_call 276;apply (qIs X1.o X2.o Dd).mn;intro wB d0;have⟨d1,d2⟩:=xi d0;have a6:=bN a4 d0.size;have e6:=(d1 p 0 a4).trans e1;have e7:=(d1 p 1 a4).trans e3;have e8:=(d2 p 0 a4).trans e4;have e9:=(d2 p 1 a4).trans e5;clear d1 d2|go_at_call 179;refine(Ys _ _ (M j i Oo Oo) (X1.o.mul X2) Dd).mn ?_;intro wC d9;have⟨d3,d4⟩:=xi d9;have q0:=(d3 p 0 a6).trans e6;have q1:=(d3 p 1 a6).trans e7;have q2:=(d4 p 0 a6).trans e8;have q3:=(d4 p 1 a6).trans e9;clear d3 d4)
   all_goals
    go_wp2
    go_roundw;exact⟨i+1,Oo,Gg,((I.below (bt (bt (eB.drew.trans c8) d0) d9)).own (o:=0) (ai (part cost C B j i-C i j*(cost _)).num) a8 a7).own (o:=1) (ai (part cost C B j i-C i j*(cost _)).den) a8 a7,by rw[qES];exact (RatAt.mk q0 q1 q2 q3).set (part cost C B j i-C i j*(cost _))⟩;exact Im
  obtain rfl:i=m:=Oo;have i3:=aY i;have g4:=I.sx.lay.rows;have a1:=I.sx.lay.num i j Oo Oo;have a2:=I.sx.lay.den i j Oo Oo;have g1:wr.frozen? (az k (2+i*40+j*2))=false:=I.sx.free _ Oo;have g2:wr.frozen? (az k (2+i*40+j*2+1))=false:=I.sx.free _ Oo;have i6:(i:Int)<8:=Oo;have r1:=a5.num;have r2:=a5.den;go_upto_region 12 with fail;go_region
  go_wp2;go_roundw
  case rel=>
   refine⟨j+1,Oo,Gg,?_,?_,?_⟩;exact((I.kb.set _ _).set _ _).drew
   .refine((I.sx.setNum eA (show j<=n by omega) _).congr (λa b _ _=>?_) (λ_ _=>rfl) (λ_ _=>rfl)).drew;unfold kG;by_cases e:a=i/\b=j;rw[fE e,fE Oo,e.2];rw[fF e];by_cases e2:a=i/\b<j;rw[fE e2,fE Oo];rw[fF e2,fF Oo]
   exact I.ar.move (by show((wr.setCell _ _).setCell _ _).1[w.1.size]?=_;rw[eG Sy,eG Sy])
  case measure=>simp[intOf];omega
 obtain rfl:j=n+1:=Oo;have i1:¬((n:Int)+1<(n:Int)+1):=Oo;go_wp2;go_end0
 exact⟨rfl,hP.kb,hP.sx⟩
def asV(f:Nat->Int):Value:=.agg #[ai (f 0),ai (f 1),ai (f 2),ai (f 3),ai (f 4),ai (f 5)]
def xR(l:LI)(f g:Nat->Int)(i:Nat):Int:=if (i:Int)∈l then g i else f i
theorem U1{f g}{v:Nat}(K:j<l.length)(hv:l.getD j 0=(v:Int))i:xR (l.take (j+1)) f g i=if i=v then g v else xR (l.take j) f g i:=by
 have e:(i:Int)∈l.take (j+1)↔(i:Int)∈l.take j\/i=v:=by
  rw[tA,cF,gE K];rw[gD,gE K]at hv;have hv:l[j]=(v:Int):=hv;rw[hv];show _\/(i:Int)∈[(v:Int)]↔_;rw[cI,Int.ofNat_inj]
 unfold xR;by_cases h:i=v;rw[fE h,fE (e.2 (.inr h)),h];rw[fF h];by_cases I:(i:Int)∈l.take j;rw[fE I,fE (e.2 (.inl I))];rw[fF I,fF λM=>(e.1 M).elim I h]
theorem qFl(h:j<l.length):l.getD j 0∈l:=by rw[gD,gE h];exact gM _
theorem six(f:Nat->Int)t:ArrAt (w.alloc (.cells #[ai (f 0),ai (f 1),ai (f 2),ai (f 3),ai (f 4),ai (f 5)] t)) w.1.size 6 λi=>ai (f i):=qj w 6 (λi=>ai (f i)) t
theorem Zl w f g l(h:IS w vl l)(hl:l.length<=1000)(a6:∀y∈l,0<=y/\y<6):
 aG 165 #[asV f,asV g,vl] w (asV (xR l f g)):=by
 obtain⟨a,cap,rfl,hc⟩:=h;have⟨n,hn⟩:=Ex l.length;rw[<-hn]at hc hl |-;have⟨W3,O⟩:=Ex (((aJ w #[ai (f 0),ai (f 1),ai (f 2),ai (f 3),ai (f 4),ai (f 5)] 137).alloc (.cells #[ai (g 0),ai (g 1),ai (g 2),ai (g 3),ai (g 4),ai (g 5)] 137)).alloc (.cells #[ai 0,ai 0,ai 0,ai 0,ai 0,ai 0] 137));have HX:Hh (Bl w W3/\ArrAt W3 w.1.size 6 (λi=>ai (xR (l.take 0) f g i))/\ArrAt W3 (w.1.size+1) 6 (λi=>ai (g i))/\ArrAt W3 (w.1.size+2) 6 (λ_=>ai 0)):=(by
  have h0:=six (w:=w) f 137;have h1:=six (w:=aJ w #[ai (f 0),ai (f 1),ai (f 2),ai (f 3),ai (f 4),ai (f 5)] 137) g 137;have h2:=six (w:=(aJ w #[ai (f 0),ai (f 1),ai (f 2),ai (f 3),ai (f 4),ai (f 5)] 137).alloc (.cells #[ai (g 0),ai (g 1),ai (g 2),ai (g 3),ai (g 4),ai (g 5)] 137)) (λ_=>0) 137;rw[O];rw[aM]at h1;rw[aM,aM]at h2;refine⟨((aK).alloc Ss _).alloc Sy _,(h0.below Oo aK).below Oo aK,h1.below Oo aK,h2⟩)
 change Hh _ at hc hn a6;unfold asV;go_enter func165,ntmps165;go_upto_region 1 with fail;rw[<-O];clear O;go_wp2;go_loopw [11] (λt wr=>∃j:Nat,j<=n/\t=ai j/\Hh (Bl w wr/\ArrAt wr w.1.size 6 (λi=>ai (xR (l.take j) f g i))/\ArrAt wr (w.1.size+1) 6 (λi=>ai (g i))/\ArrAt wr (w.1.size+2) 6 (λ_=>ai 0))) (λt _=>n-(intOf t).toNat);exact⟨0,eC,rfl,HX⟩;clear HX;obtain⟨j,hj,rfl,HX⟩:=hrel;have⟨hB,K,hG,I⟩:=HX.o;by_cases V:j<n
 .have i1:=aV V;rcases hc.o with h0|⟨b,o,rfl,M⟩;omega;have c0:=M j V;have hy:=a6 _ (qFl (l:=l) (j:=j) (by rw[<-hn.o];exact V));obtain⟨v,hv⟩:∃v:Nat,l.getD j 0=(v:Int):=⟨(l.getD j 0).toNat,Oo⟩;rw[hv]at c0 hy;have v6:v<6:=Oo;have i2:=aV v6;have c1:=qF hB c0;have c2:=hG.cell v v6;have c3:=K.cell v v6;have f3:=K.free v v6;have HE:Hh (Bl w (sC wr w.1.size v (ai (g v)))/\ArrAt (sC wr w.1.size v (ai (g v))) w.1.size 6 (λi=>ai (xR (l.take (j+1)) f g i))/\ArrAt (sC wr w.1.size v (ai (g v))) (w.1.size+1) 6 (λi=>ai (g i))/\ArrAt (sC wr w.1.size v (ai (g v))) (w.1.size+2) 6 (λ_=>ai 0)):=(by
   refine⟨hB.setCell eA _,?_,hG.move (eG (by show w.1.size+1≠w.1.size;omega)),I.move (eG (by show w.1.size+2≠w.1.size;omega))⟩;have h1:=K.set v6 (ai (g v));refine⟨λi hi=>(h1.cell i hi).trans ?_,h1.free⟩;rw[U1 (by rw[<-hn.o];exact V) hv];split <;> rfl)
  clear HX hB K hG I M c0 hv hy;go_wp2;go_roundw;exact⟨j+1,Oo,Gg,HE⟩;exact Im
 obtain rfl:j=n:=Oo;have i1:=aY j;rw[hn.o,tL]at K;have a0:=K.cell 0 Oo;have a1:=K.cell 1 Oo;have a2:=K.cell 2 Oo;have a3:=K.cell 3 Oo;have a4:=K.cell 4 Oo;have a5:=K.cell 5 Oo;have z0:=I.cell 0 Oo;have z1:=I.cell 1 Oo;have z2:=I.cell 2 Oo;have z3:=I.cell 3 Oo;have z4:=I.cell 4 Oo;have z5:=I.cell 5 Oo;have f0:=I.free 0 Oo;have f1:=I.free 1 Oo;have f2:=I.free 2 Oo;have f3:=I.free 3 Oo;have f4:=I.free 4 Oo;have f5:=I.free 5 Oo;change Hh _ at hB;clear K I hG HX;go_wp2;refine aU (v:=asV (xR l f g)) (by unfold asV;simp[results,results165,go_sem,z0,z1,z2,z3,z4,z5]) rfl ⟨rfl,?_⟩;have hz:w.1.size<=w.1.size+2:=Oo;exact(((((hB.o.setCell hz _).setCell hz _).setCell hz _).setCell hz _).setCell hz _).setCell hz _
def xS(l:LI)(f:Nat->Int):Nat->Int:=xR l (λ_=>0) f
theorem jq w f l(h:IS w vl l)(hl:l.length<=1000)(a6:∀y∈l,0<=y/\y<6):
 aG 133 #[asV f,vl] w (asV (xS l f)):=by
 have⟨O,K⟩:=Ex ((aJ w #[ai (f 0),ai (f 1),ai (f 2),ai (f 3),ai (f 4),ai (f 5)] 137).alloc (.cells #[ai 0,ai 0,ai 0,ai 0,ai 0,ai 0] 137));have M:ArrAt O w.1.size 6 λi=>ai (f i):=by
  rw[K];exact(six f _).below Oo aK
 have I:ArrAt O (w.1.size+1) 6 λ_=>ai 0:=by
  have h2:=six (w:=aJ w #[ai (f 0),ai (f 1),ai (f 2),ai (f 3),ai (f 4),ai (f 5)] 137) (λ_=>0) 137;rw[aM]at h2;rw[K];exact h2
 have hB:Bl w O:=by rw[K];exact(aK).alloc Ss _
 have HK:Hh (Cl 165 #[.agg #[ai 0,ai 0,ai 0,ai 0,ai 0,ai 0],.agg #[ai (f 0),ai (f 1),ai (f 2),ai (f 3),ai (f 4),ai (f 5)],vl] O λe w'=>e=.returned (asV (xS l f))/\Bl O w'):=Zl O _ f l (h.below hB) hl a6;have HZ:=ay I;change Hh _ at hB;have a0:=M.cell 0 Oo;have a1:=M.cell 1 Oo;have a2:=M.cell 2 Oo;have a3:=M.cell 3 Oo;have a4:=M.cell 4 Oo;have a5:=M.cell 5 Oo;obtain⟨al,cl,rfl,-⟩:=h;clear M I a6;unfold asV at HK |-;go_enter func133,ntmps133;go_upto_region 1 with fail;rw[<-K];clear K;go_wp2_with (go_at_call 165;apply HK.o.mn;intro w' hb;have I:=HZ.o.below Oo hb;have z0:=I.cell 0 Oo;have z1:=I.cell 1 Oo;have z2:=I.cell 2 Oo;have z3:=I.cell 3 Oo;have z4:=I.cell 4 Oo;have z5:=I.cell 5 Oo;have f0:=I.free 0 Oo;have f1:=I.free 1 Oo;have f2:=I.free 2 Oo;have f3:=I.free 3 Oo;have f4:=I.free 4 Oo;have f5:=I.free 5 Oo);refine aU (v:=asV (xS l f)) (by unfold asV;simp[results,results133,go_sem,z0,z1,z2,z3,z4,z5]) rfl ⟨rfl,?_⟩;have V:w.1.size<=w.1.size+1:=Oo;exact((((((bt hB hb).setCell V _).setCell V _).setCell V _).setCell V _).setCell V _).setCell V _
theorem QW w vs{r}(hv:IS w vv vs)(hr:IS w vr r)(a6:r.length=vs.length)(hl:vs.length<=1000)(b7:∀y∈vs,0<=y/\y<6)(hp:vs.Pairwise (·< ·)):
 aG 132 #[vv,vr] w (asV (xS vs λi=>vlF vs r i)):=by
 obtain⟨a,cap,rfl,hc⟩:=hv;obtain⟨ar,b8,rfl,V⟩:=hr;rw[a6]at V |-;have⟨n,hn⟩:=Ex vs.length;rw[<-hn]at hc V hl a6 |-;have⟨W2,a7⟩:=Ex ((aJ w #[ai 0,ai 0,ai 0,ai 0,ai 0,ai 0] 137).alloc (.cells #[ai 0,ai 0,ai 0,ai 0,ai 0,ai 0] 137));have HX:Hh (Bl w W2/\ArrAt W2 (w.1.size+1) 6 (λi=>ai (xR (vs.take 0) (λ_=>0) (λi=>vlF vs r i) i))/\ArrAt W2 w.1.size 6 (λ_=>ai 0)):=(by
  have h0:=six (w:=w) (λ_=>0) 137;have h1:=six (w:=aJ w #[ai 0,ai 0,ai 0,ai 0,ai 0,ai 0] 137) (λ_=>0) 137;rw[a7];rw[aM]at h1;exact⟨(aK).alloc Ss _,h1,h0.below Oo aK⟩)
 change Hh _ at hc V hn b7 hp;clear a6;go_enter func132,ntmps132;go_upto_region 2 with fail;rw[<-a7];clear a7;go_wp2;go_loopw [10] (λt wr=>∃j:Nat,j<=n/\t=ai j/\Hh (Bl w wr/\ArrAt wr (w.1.size+1) 6 (λi=>ai (xR (vs.take j) (λ_=>0) (λi=>vlF vs r i) i))/\ArrAt wr w.1.size 6 (λ_=>ai 0))) (λt _=>n-(intOf t).toNat);exact⟨0,eC,rfl,HX⟩;clear HX;obtain⟨j,hj,rfl,HX⟩:=hrel;have⟨hB,M,I⟩:=HX.o;by_cases a8:j<n
 .have i1:=aV a8;rcases hc.o with h0|⟨b,o,rfl,O⟩;omega;rcases V.o with h0|⟨br,or,rfl,K⟩;omega;have c0:=O j a8;have c2:=qF hB (K j a8);have a9:j<vs.length:=by rw[<-hn.o];exact a8
  have hy:=b7 _ (qFl (l:=vs) (j:=j) a9);have b1:=jL _ r j hp a9;obtain⟨v,hv⟩:∃v:Nat,vs.getD j 0=(v:Int):=⟨(vs.getD j 0).toNat,Oo⟩;rw[hv]at c0 hy b1;rw[<-b1]at c2;have v6:v<6:=Oo;have i2:=aV v6;have c1:=qF hB c0;have c3:=M.cell v v6;have f3:=M.free v v6;have HE:Hh (Bl w (sC wr (w.1.size+1) v (ai (vlF vs r v)))/\ArrAt (sC wr (w.1.size+1) v (ai (vlF vs r v))) (w.1.size+1) 6 (λi=>ai (xR (vs.take (j+1)) (λ_=>0) (λi=>vlF vs r i) i))/\ArrAt (sC wr (w.1.size+1) v (ai (vlF vs r v))) w.1.size 6 (λ_=>ai 0)):=(by
   refine⟨hB.setCell (Nat.le_succ _) _,?_,I.move (eG (by show w.1.size≠w.1.size+1;omega))⟩;have h1:=M.set v6 (ai (vlF vs r v));refine⟨λi hi=>(h1.cell i hi).trans ?_,h1.free⟩;rw[U1 a9 hv];split <;> rfl)
  clear HX hB M I O K c0 hv hy b1;generalize vlF vs r v=x at *;go_wp2;go_roundw;exact⟨j+1,Oo,Gg,HE⟩;exact Im
 obtain rfl:j=n:=Oo;have i1:=aY j;rw[hn.o,tL]at M;have a0:=M.cell 0 Oo;have a1:=M.cell 1 Oo;have a2:=M.cell 2 Oo;have a3:=M.cell 3 Oo;have a4:=M.cell 4 Oo;have a5:=M.cell 5 Oo;have z0:=I.cell 0 Oo;have z1:=I.cell 1 Oo;have z2:=I.cell 2 Oo;have z3:=I.cell 3 Oo;have z4:=I.cell 4 Oo;have z5:=I.cell 5 Oo;have f0:=I.free 0 Oo;have f1:=I.free 1 Oo;have f2:=I.free 2 Oo;have f3:=I.free 3 Oo;have f4:=I.free 4 Oo;have f5:=I.free 5 Oo;change Hh _ at hB;clear M I HX;go_wp2;refine aU (v:=asV (xR _ _ _)) (by unfold asV;simp[results,results132,go_sem,z0,z1,z2,z3,z4,z5]) rfl ⟨rfl,?_⟩;exact(((((hB.o.setCell eA _).setCell eA _).setCell eA _).setCell eA _).setCell eA _).setCell eA _
open Go.Maps
def Ok6(a:LI):Prop:=a.length=6/\∀x∈a,-9223372036854775808<=x/\x<=9223372036854775807
def asL(a:LI):Value:=asV λi=>a.getD i 0
theorem qCq(h:a.length=6):∃x0 x1 x2 I K M,a=[x0,x1,x2,I,K,M]:=by
 match a,h with
 |[x0,x1,x2,I,K,M],_=>exact⟨_,_,_,_,_,_,rfl⟩
theorem qHc{b}(ha:a.length=6)(hb:b.length=6)(h:asL a=asL b):a=b:=by
 obtain⟨x0,x1,x2,x3,x4,x5,rfl⟩:=qCq ha;obtain⟨y0,y1,y2,y3,y4,y5,rfl⟩:=qCq hb;unfold asL asV at h;simp only[Value.agg.injEq,Array.mk.injEq,List.cons.injEq,Value.int.injEq,true_and,and_true]at h;obtain⟨I,K,M,O,V,h5⟩:=h;simp at I K M O V h5;rw[I,K,M,O,V,h5]
theorem Ok6.at(h:Ok6 a)i:-9223372036854775808<=a.getD i 0/\a.getD i 0<=9223372036854775807:=by
 rcases dL i a.length with e|e;exact h.2 _ (qFl e);rw[gD,gN e];exact⟨Dd,Dd⟩
theorem Tryz.laidA:laidOutB Tryz.prog=true:=Kl
theorem Tryz.rowA:(137:TypeId)<Tryz.prog.types.size:=aN Kl
theorem Tryz.lawA:Keyed Tryz.prog 137:=Keyed.of_law (deep_law_laid Tryz.laidA (m:=3) Oo Tryz.rowA Kl (by rw[underlying137]))
theorem Tryz.underWo:Tryz.prog.underlying 111=some (.map 137 3):=Kl
theorem Tryz.underEn:Tryz.prog.underlying 144=some (.map 137 111):=Kl
theorem Tryz.zeroA w:(zeroValue 3).run Tryz.prog w=.ok (.int .i64 0) w:=Kl
theorem Tryz.cellsA:Tryz.prog.cellsOf 137=6:=Kl
theorem Tryz.cellsI4:Tryz.prog.cellsOf 3=1:=Kl
theorem Tryz.keyTypeA:Tryz.prog.keyType 137=true:=Kl
theorem qI2 d n(h:(Lit.int .i64 n).wf=true):Tryz.prog.keyLits (d+1) 3 [.int .i64 n]=some [.int .i64 n]:=by
 unfold Program.keyLits;rw[underlying3];simp[h]
theorem qI3 d{x0 x1 x2 I K M}(O:(Lit.int .i64 x0).wf=true)(V:(Lit.int .i64 x1).wf=true)(h2:(Lit.int .i64 x2).wf=true)(h3:(Lit.int .i64 I).wf=true)(h4:(Lit.int .i64 K).wf=true)(h5:(Lit.int .i64 M).wf=true):Tryz.prog.keyLits (d+2) 137 [.int .i64 x0,.int .i64 x1,.int .i64 x2,.int .i64 I,.int .i64 K,.int .i64 M]=some [.int .i64 x0,.int .i64 x1,.int .i64 x2,.int .i64 I,.int .i64 K,.int .i64 M]:=by
 unfold Program.keyLits;rw[underlying137];simp[Tryz.cellsA,Tryz.cellsI4,dQ,qI2,O,V,h2,h3,h4,h5]
def kla(a:LI):Lit:=.string (keyBytes [.int .i64 (a.getD 0 0),.int .i64 (a.getD 1 0),.int .i64 (a.getD 2 0),.int .i64 (a.getD 3 0),.int .i64 (a.getD 4 0),.int .i64 (a.getD 5 0)])
theorem yP(h:Ok6 a):keyOf Tryz.prog 137 (asL a)=some (kla a):=by
 obtain⟨n,I⟩:∃n,Tryz.prog.types.size=n+1:=Nat.exists_eq_succ_of_ne_zero (Nat.ne_of_gt (Nat.lt_of_le_of_lt eC Tryz.rowA));have w:=λi=>WalkArith.wf_i64 (O1 (h.at i));have M:(asL a).formed Tryz.prog 137=true:=by
  unfold asL asV Value.formed;rw[underlying137];simp[Tryz.cellsA]
 unfold keyOf;rw[underlying137,Tryz.keyTypeA,M,I];have O:(asL a).cells.toList=[.int .i64 (a.getD 0 0),.int .i64 (a.getD 1 0),.int .i64 (a.getD 2 0),.int .i64 (a.getD 3 0),.int .i64 (a.getD 4 0),.int .i64 (a.getD 5 0)]:=rfl;simp only[O,Bool.and_true,if_true,Option.map_eq_some_iff,Nat.add_assoc,Nat.reduceAdd];exact⟨_,qI3 n (w 0) (w 1) (w 2) (w 3) (w 4) (w 5),rfl⟩
theorem XR{b}(I:Ok6 a)(hb:Ok6 b)(h:kla a=kla b):a=b:=qHc I.1 hb.1 (Tryz.lawA.inj (yP I) (by rw[h];exact yP hb))
theorem V0(I:Ok6 a):WideAt.IsKeyLit (kla a):=Tryz.lawA.key (yP I)
def qP(v:Value):Option (DataW Unit×List MemPlace):=match v with
 | .int .i64 _=>some (.agg [],[])
 |_=>none
theorem uk{z}(h:qP v=some z):∃x,v=.int .i64 x:=by
 unfold qP at h;split at h;exact⟨_,rfl⟩;cases h
section
variable {R:Value->Option (DataW Unit×List MemPlace)} {W W':World} {b:Nat} {ks:LL} {D:DataW Unit}
structure Wm(R:Value->Option (DataW Unit×List MemPlace))(W:World)(b:Nat)(ks:LL)(D:DataW Unit):Prop where
 own:W.ownsMap Tryz.prog 137 R b ks.length D
 has:∀a,Ok6 a->Maps.has D (kla a)=decide (a∈ks)
 all:∀l,Maps.has D l=true->∃a,Ok6 a/\kla a=l
 size:Maps.size D=ks.length
 nd:ks.Nodup
 ok:∀a∈ks,Ok6 a
theorem Wm.start(w:World):Wm R (w.alloc (.map #[] 0)) w.1.size [] (.map []):=⟨World.ownsMap_made _ _ _ _,λ_ _=>rfl,λl h=>(by cases h),rfl,List.nodup_nil,λa h=>by cases h⟩
theorem Wm.move(h:Wm R W b ks D)(hb:W'.1[b]?=W.1[b]?):Wm R W' b ks D:=by
 have⟨es,clock,hb',F,hs,I⟩:=h.own;exact⟨⟨es,clock,hb.trans hb',F,hs,I⟩,h.has,h.all,h.size,h.nd,h.ok⟩
theorem Wm.lt(h:Wm R W b ks D):b<W.1.size:=h.own.lt
theorem Wm.bel(h:Wm R W b ks D)(hb:Bl W W'):Wm R W' b ks D:=h.move (hb.block b h.lt)
def xa(a:LI)(ks:LL):LL:=if a∈ks then ks else ks++[a]
theorem um:x∈xa a ks↔x=a\/x∈ks:=by
 unfold xa;split;exact⟨.inr,λh=>h.elim (λe=>e ▸ ‹_›) id⟩;rw[cF,cI];exact Or.comm
theorem YG:(xa a ks).length<=ks.length+1:=by
 unfold xa;split;omega;rw[lA,lS];omega
theorem Wm.put{d}(h:Wm R W b ks D)(M:Ok6 a)(ho:W'.ownsMap Tryz.prog 137 R b n (D.put (kla a) d)):Wm R W' b (xa a ks) (D.put (kla a) d):=by
 have O:=h.own.tidy Tryz.lawA;have V:Maps.size (D.put (kla a) d)=(xa a ks).length:=by
  rw[size_put O,h.has a M,h.size];unfold xa;by_cases e:a∈ks;rw[fE e,fE (fD e)];rw[fF e,fF (by simpa using e),lA];rfl
 refine⟨?_,λx K=>?_,λl hl=>?_,V,?_,λx K=>?_⟩;have⟨es,clock,I,F,h2,h3⟩:=ho;refine⟨es,clock,I,F,?_,h3⟩;rw[<-V,h3,size_eq,length_read];exact eA
 .by_cases e:x=a;subst e;rw[has_put_same O.isMap (V0 M),fD (um.2 (.inl rfl))];rw[has_put_other λe2=>e (XR K M e2),h.has x K];exact decide_eq_decide.2 ⟨λI=>um.2 (.inr I),λI=>(um.1 I).resolve_left e⟩
 .by_cases e:l=kla a;exact⟨a,M,e.symm⟩;rw[has_put_other e]at hl;exact h.all l hl
 .unfold xa;split;exact h.nd;exact List.nodup_append.2 ⟨h.nd,Ss,λx K y hy=>by rw[cI]at hy;subst hy;exact λe=>‹¬_› (e ▸ K)⟩
 rcases um.1 K with rfl|I;exact M;exact h.ok x I
end
def rgV:Value:=.iface 68 (.agg #[])
def qG0:Value:=.func (.method "loop.example/s01205/impl.plus") #[rgV] #[]
theorem qB3 x y:Cl 271 #[.agg #[],ai x,ai y] w λe w'=>(∃z,e=.returned (ai z))/\Bl w w':=by
 go_enter func271,ntmps271;go_wp2;go_ret;exact⟨⟨_,rfl⟩,aK⟩
theorem Zn{x y}:Cl 272 #[.agg #[],ai x,ai y] w λe w'=>(∃z,e=.returned (ai z))/\Bl w w':=by
 go_enter func272,ntmps272;go_wp2;go_ret;exact⟨⟨_,rfl⟩,aK⟩
theorem qDZ:aG 270 #[.agg #[]] w (ai 1):=by
 go_enter func270,ntmps270;go_wp2;go_ret;exact⟨rfl,aK⟩
theorem qAM{x}:aG 274 #[.agg #[],ai x] w (ai 1):=by
 go_enter func274,ntmps274;go_wp2;go_ret;exact⟨rfl,aK⟩
theorem Kb.turned(h:Kb b w w1)(K:w1.mapTurned w2 b):Kb b w w2:=by
 have g:=K.grown;exact h.trans ⟨g.os,g.tape,g.output,g.size,λk M I=>g.block k M (by simpa using I)⟩
theorem Tryz.plusM w:(method (Tryz.prog.types.size+Made.depth) 68 (.agg #[]) "loop.example/s01205/impl.plus").run Tryz.prog w=.ok (271,.agg #[]) w:=Kl
theorem Tryz.timesM w:(method (Tryz.prog.types.size+Made.depth) 68 (.agg #[]) "loop.example/s01205/impl.times").run Tryz.prog w=.ok (272,.agg #[]) w:=Kl
theorem Tryz.oneM w:(method (Tryz.prog.types.size+Made.depth) 68 (.agg #[]) "loop.example/s01205/impl.one").run Tryz.prog w=.ok (270,.agg #[]) w:=Kl
theorem Tryz.worthM w:(method (Tryz.prog.types.size+Made.depth) 68 (.agg #[]) "loop.example/s01205/impl.worth").run Tryz.prog w=.ok (274,.agg #[]) w:=Kl
theorem qDa w{ks}D a x(h:Wm qP w b ks D)(ha:Ok6 a)(hn:ks.length<=1000000000):
 aF 166 #[.map (some b),asL a,ai x,qG0] w (.tuple #[]) λw'=>(∃D',Wm qP w' b (xa a ks) D')/\Kb b w w':=by
 have hk:=yP ha;unfold asL at hk |-;obtain⟨f,hf⟩:=Ex (λi=>a.getD i 0);rw[<-hf]at hk |-;clear hf;obtain⟨W1,O⟩:=Ex (w.alloc (.cells #[ai (f 0),ai (f 1),ai (f 2),ai (f 3),ai (f 4),ai (f 5)] 137));have V:ArrAt W1 w.1.size 6 λi=>ai (f i):=by rw[O];exact six f _
 have hB:Bl w W1:=by rw[O];exact(bJ _ _).alloc (nR _) _
 have HW:=ay (h.bel hB);have a6:=(h.bel hB).own;have HA:=ay V;have HB:=ay hB;have HO:=ay ha;have a0:=V.cell 0 Oo;have a1:=V.cell 1 Oo;have a2:=V.cell 2 Oo;have a3:=V.cell 3 Oo;have a4:=V.cell 4 Oo;have a5:=V.cell 5 Oo;clear V hB h ha;unfold asV at hk |-;unfold qG0 rgV;go_enter func166,ntmps166;go_upto_region 1 with fail;rw[<-O];clear O;go_upto_region 2 with (at_lookup;refine wpList_lookup_own_ok _ rfl _ _ 111 rfl _ 3 Tryz.lawA Tryz.underWo _ (Tryz.zeroA _) _ _ rfl b _ D rfl a6 _ _ rfl hk ?_;intro v ps hv;obtain⟨c,rfl⟩:=uk hv);generalize Maps.has D (kla a)=known at *;cases known
 .go_wp2_with (at_mapUpdate;refine wpList_mapUpdate_in _ rfl _ _ _ 111 rfl _ 3 Tryz.lawA Tryz.underWo _ b _ D rfl a6 Um _ _ _ rfl rfl hk _ _ rfl ?_;intro w1 K I);refine bodyPost_end (results_none rfl _ _ _) rfl ⟨rfl,⟨_,HW.o.put HO K⟩,(Kb.of_below HB).turned I⟩
 have hm:=Tryz.plusM;go_wp2_with (first
  |(go_at_call 271;apply (qB3 c x).mono;rintro e w2 ⟨⟨z,rfl⟩,hb⟩;have M:=HA.o.below Oo hb;have b0:=M.cell 0 Oo;have b1:=M.cell 1 Oo;have b2:=M.cell 2 Oo;have b3:=M.cell 3 Oo;have b4:=M.cell 4 Oo;have b5:=M.cell 5 Oo;have a7:=(HW.o.bel hb).own)
  |(at_mapUpdate;refine wpList_mapUpdate_in _ rfl _ _ _ 111 rfl _ 3 Tryz.lawA Tryz.underWo _ b _ D rfl a7 Um _ _ _ rfl rfl hk _ _ rfl ?_;intro w1 K I)
  |fail)
 refine bodyPost_end (results_none rfl _ _ _) rfl ⟨rfl,⟨_,(HW.o.bel hb).put HO K⟩,(Kb.of_below (bt HB hb)).turned I⟩
theorem xc{k R}{D:DataW Unit}{left}(h:w.ranges Tryz.prog k R b r n D left I)(K:w'.1[b]?=w.1[b]?)(M:w'.1[r]?=w.1[r]?):w'.ranges Tryz.prog k R b r n D left I:=by
 unfold World.ranges at h |-;rw[K,M];exact h
section
variable {R:Value->Option (DataW Unit×List MemPlace)} {W:World} {b:Nat} {ks ss:LL} {D:DataW Unit} {left:Lit->Bool}
structure Cg(ks:LL)(left:Lit->Bool)(ss:LL):Prop where
 nd:ss.Nodup
 sub:∀a∈ss,a∈ks
 some:∀l,left l=true->∃a∈ks,Ok6 a/\kla a=l/\a∉ss
 rest:∀a∈ks,left (kla a)=false->a∈ss
theorem Cg.start(h:Wm R W b ks D):Cg ks (Maps.has D) []:=⟨List.nodup_nil,λa h=>(by cases h),λl hl=>by
 have⟨a,I,e⟩:=h.all l hl;have:=h.has a I;rw[e,hl]at this;exact⟨a,aN this.symm,I,e,List.not_mem_nil⟩,λa I K=>by rw[h.has a (h.ok a I),fD I]at K;cases K⟩
theorem Xr{c}(I:Ok6 a)(K:Ok6 c):(kla a).sameKey (kla c)=decide (a=c):=by
 by_cases h:a=c;subst h;simp[kla,Lit.sameKey];rw[fC h];exact sameKey_ne λe=>h (XR I K e)
theorem Cg.step(h:Cg ks left ss)(M:∀x∈ks,Ok6 x)(O:a∈ks)(hs:a∉ss):Cg ks (λz=>left z&&!z.sameKey (kla a)) (ss++[a]):=by
 refine⟨List.nodup_append.2 ⟨h.nd,Ss,λx K y hy=>by rw[cI]at hy;subst hy;exact λe=>hs (e ▸ K)⟩,λx K=>?_,λl hl=>?_,λx K I=>?_⟩
 .rcases cF.1 K with I|I;exact h.sub x I;rw[cI.1 I];exact O
 .rw[bV]at hl;obtain⟨x,I,h2,rfl,h3⟩:=h.some l hl.1;refine⟨x,I,h2,rfl,λh4=>?_⟩;rcases cF.1 h4 with V|V;exact h3 V;rw[cI.1 V,Xr (M a O) (M a O),fD rfl]at hl;cases hl.2
 rw[Bool.and_eq_false_iff,Bool.not_eq_false',Xr (M x K) (M a O),dE]at I;rcases I with I|rfl;exact dW _ (h.rest x K I);exact dX _ (cI.2 rfl)
end
theorem qAP{pm}bo{bf I K D1 D2}(hm:w.cell? (az pm 0)=some rgV)(h1:Wm qP w bo I D1)(h2:Wm qP w bf K D2)(b8:bo≠bf)(e4:pm≠bo)(hn:I.length+K.length<=1000000):
 aF 137 #[.pointer (some (az pm 0)),.map (some bo),.map (some bf)] w (.map (some bo)) λw'=>(∃ks D,Wm qP w' bo ks D/\(∀a,a∈ks↔a∈I\/a∈K)/\ks.length<=I.length+K.length)/\Kb bo w w':=by
 have f9:Tryz.prog.follows .mixedOrders=true:=Kl;have V:=h2.own;have H1:=ay h1;have H2:=ay h2;have e5:=h1.lt;have g8:=h2.lt;have e6:pm<w.1.size:=bL w _ hm;have HM:=ay hm;clear h1 h2 hm;go_enter func137,ntmps137;go_wp2_with (first
  |(at_range;refine wpList_range_own _ rfl _ 111 rfl _ 3 Tryz.lawA Tryz.underWo _ _ _ _ rfl V ?_;intro w5 a8 O e7)
  |go_in)
 go_frame;have d0:Hh (Cg K (Maps.has D2) []/\Wm qP w5 bo I D1/\(∀a,a∈I↔a∈I\/a∈([]:LL))/\I.length<=I.length+([]:LL).length/\([]:LL).length+Maps.size D2<=K.length/\Kb bo w w5/\w.1.size<w5.1.size):=(by
  refine⟨Cg.start H2,H1.o.move (O.block _ e5 Ss),λa=>Ss,Ss,by rw[H2.o.size];simp,⟨O.os,O.tape,O.output,Oo,λk hk _=>O.block k hk Ss⟩,Oo⟩)
 clear O e7 V;go_loopw [8] (λ_ wr=>∃(left:Lit->Bool) (a7:Nat) (ss ks:LL) (D:DataW Unit),wr.ranges Tryz.prog 137 qP bf w.1.size K.length D2 left a7/\Hh (Cg K left ss/\Wm qP wr bo ks D/\(∀a,a∈ks↔a∈I\/a∈ss)/\ks.length<=I.length+ss.length/\ss.length+a7<=K.length/\Kb bo w wr/\w.1.size<wr.1.size)) (λ_ wr=>wr.rangeLeft bf w.1.size);exact⟨_,_,[],I,D1,a8,d0⟩;clear d0 a8;have⟨left,a7,ss,ks,D,b9,HH⟩:=hrel;go_wp2_with (first
  |(at_next;refine wpList_next_ranges _ rfl _ rfl _ Tryz.lawA _ id ai (λkey kl hk=>⟨key,rfl⟩) (λv y hv=>uk hv) _ _ _ _ _ _ rfl b9 ?_ ?_)
  |go_in)
 .intro g9 hl0;go_wp2;go_ret;have⟨g1,g2,g3,g4,g5,g6,g7⟩:=HH.o;refine⟨rfl,⟨ks,D,g2,λa=>(g3 a).trans ⟨λh=>h.imp id (g1.sub a),λh=>h.imp id λh3=>g1.rest a h3 (hl0 _)⟩,Oo⟩,g6⟩
 intro key c kl ya yb w6 a9 b1 d1 hv d2 b7 d3 hg1 hs1 c7;obtain⟨a,ha,d4,rfl,hs⟩:=HH.1.some _ d1;obtain rfl:key=asL a:=Tryz.lawA.inj b1 (yP d4);have⟨g1,g2,g3,g4,g5,g6,g7⟩:=HH.o;have e8:=ay (g1.step H2.o.ok ha hs);have e9:=ay b9;have d5:=ay d3;have c8:=ay b7;have d6:Kb bo w w6:=⟨hg1.os.trans g6.os,hg1.tape.trans g6.tape,hg1.output.trans g6.output,Oo,λk hk b8=>(hg1.block k Oo Sy).trans (g6.block k hk b8)⟩;clear b9 b7 d3 b1 d1 hv d2 hs HH;unfold asL at c7 |-;generalize hf:(λi=>a.getD i 0)=f at *;unfold asV at c7 |-;go_upto_region 4 with fail;have a6:Bl w6 (w6.alloc (.cells #[ai (f 0),ai (f 1),ai (f 2),ai (f 3),ai (f 4),ai (f 5)] 137)):=aK;have M:=six (w:=w6) f 137;have c9:=d6.trans (Kb.of_below a6);have h0:w6.1.size<(w6.alloc (.cells #[ai (f 0),ai (f 1),ai (f 2),ai (f 3),ai (f 4),ai (f 5)] 137)).1.size:=Ss;rw[hs1]at M;generalize w6.alloc (.cells #[ai (f 0),ai (f 1),ai (f 2),ai (f 3),ai (f 4),ai (f 5)] 137)=W7 at *;have KP:Hh (Cl 166 #[.map (some bo),.agg #[ai (f 0),ai (f 1),ai (f 2),ai (f 3),ai (f 4),ai (f 5)],ai c,.func (.method "loop.example/s01205/impl.plus") #[.iface 68 (.agg #[])] #[]] W7.drew λe w'=>e=.returned (.tuple #[])/\(∃D',Wm qP w' bo (xa a ks) D')/\Kb bo W7.drew w'):=(by
  have:=qDa W7.drew D a c (((g2.move (hg1.block _ g2.lt Sy)).bel a6).move rfl) d4 Oo;unfold asL at this;rw[hf]at this;exact this)
 have cm:W7.cell? (az pm 0)=some (.iface 68 (.agg #[])):=(bF (c9.block pm e6 e4)).trans HM;have a0:=M.cell 0 Oo;have a1:=M.cell 1 Oo;have a2:=M.cell 2 Oo;have a3:=M.cell 3 Oo;have a4:=M.cell 4 Oo;have a5:=M.cell 5 Oo;have d9:=ay (xc c8 (a6.block _ c8.o.owns.lt) (a6.block _ Oo));have f7:=ay c9;have f8:=ay g3;clear c9 a6 M d6 c8 g2 g3 g6 hf c7;go_region_law (first|go_simp;go_at_call 166;apply KP.o.mono;rintro e w8 ⟨rfl,⟨D8,h8⟩,k8⟩)
 all_goals
  have h4:=YG (a:=a) (ks:=ks)
  have H8:Hh (Cg K (λz=>left z&&!z.sameKey (kla a)) (ss++[a])/\Wm qP w8 bo (xa a ks) D8/\(∀x,x∈xa a ks↔x∈I\/x∈ss++[a])/\(xa a ks).length<=I.length+(ss++[a]).length/\(ss++[a]).length+a9<=K.length/\Kb bo w w8/\w.1.size<w8.1.size):=⟨e8,h8,λx=>by
   rw[um,f8.o x,cF,cI];exact⟨λh=>h.elim (λe=>.inr (.inr e)) λh=>h.imp id .inl,λh=>h.elim (λh=>.inr (.inl h)) λh=>h.elim (λh=>.inr (.inr h)) .inl⟩,by rw[lA,lS];omega,by rw[lA,lS];have:=d5.o;omega,(Kb.drew f7).trans k8,by have:=k8.size;have h9:W7.drew.1.size=W7.1.size:=rfl;omega⟩
  have e3:=ay (xc d9 (k8.block bf d9.o.owns.lt (Ne.symm b8)) (k8.block w.1.size (by show w.1.size<W7.1.size;omega) Oo))
  clear h8 k8 KP cm a0 a1 a2 a3 a4 a5
  go_wp2
  go_roundw;exact⟨_,a9,ss++[a],xa a _,D8,e3,H8⟩;rw[e3.o.left_eq,e9.o.left_eq];exact d5
theorem qk{p}(h:W.mapTurned W' b)(I:p.block≠b)(K:W.cell? p=some v):W'.cell? p=some v:=(bF (h.grown.block _ (bL W _ K) (by simpa using I))).trans K
def xu(l x y:LI):LI:=(List.range 6).map (xR l (λi=>x.getD i 0) λi=>y.getD i 0)
theorem qHT l x y:asL (xu l x y)=asV (xR l (λi=>x.getD i 0) λi=>y.getD i 0):=rfl
theorem qCm{y}(I:Ok6 x)(K:Ok6 y):Ok6 (xu l x y):=by
 refine⟨by unfold xu;simp,λz M=>?_⟩;obtain⟨i,-,rfl⟩:=cC.1 M;unfold xR;split;exact K.at i;exact I.at i
end Go.Proofs.YtnpgdnaeghilhaaGreat
namespace Go.Proofs.YtnpgdnaeghilhaaGreat
open Go.Proofs.Tryz Go.RowKit
section
variable {b c j n r N k o m:Nat}{C D:NQ}{a w w' W:World}{Q:Exit->Act->WP}{B:NN}{bar:NB}
theorem jI:(Tryz.prog.info? 248).map (·.size)=some 350:=Kl
def zSx:AV:=Array.replicate 330 (ai 0)++Array.replicate 20 (.bool false)
theorem Zc w:(Instr.alloc 248 true (.tuple #[])).run Tryz.prog w=.ok (.pointer (some (az w.1.size 0))) (w.alloc (.cells zSx 248)):=Kl
theorem qBu{op:Oper}{a}{K:Act->WP}(ho:op.op=.alloc 248)
 (h:K (a.put op.dst (.pointer (some (az w.1.size 0)))) (w.alloc (.cells zSx 248))):op.wp Tryz.prog a w K Q:=by
 unfold Oper.wp execOp;simp only[ho,Sem.run_bind,Sem.run_pure,Result.andThen_ok,Zc];exact h
theorem uD{ops rest op a}(I:op.guard=none)(ho:op.op=.alloc 248)
 (h:wpList Tryz.prog ops Q rest (a.put op.dst (.pointer (some (az w.1.size 0)))) (w.alloc (.cells zSx 248))):wpList Tryz.prog ops Q (op::rest) a w:=
 wpList_plain I λ_ K=>qBu ho (K _ _ h)
theorem qf{b}(h:Below a.drew.1.size a.drew b):Bl a b:=⟨h.os,h.tape,h.output,h.size,h.block⟩
theorem xX(hb:N<=b):∀(vs:LV) (o:Nat) (w:World),Below N a w->Below N a (w.setCells b o vs)
 |[],_,_,h=>h
 |v::r,o,w,h=>by
  rw[World.setCells];exact xX hb r (o+1) _ (h.setCell hb v)
theorem Xm:∀(vs:LV) (o:Nat) (w:World),Kb b a w->Kb b a (w.setCells b o vs)
 |[],_,_,h=>h
 |v::r,o,w,h=>by
  rw[World.setCells];exact Xm r (o+1) _ (h.set o v)
theorem Qn:zSx.size=350:=by simp[zSx]
theorem yi(w:World)t:(w.alloc (.cells zSx t)).there w.1.size 0 350:=by
 intro j I;rw[cU];have hb:=dZ w (.cells zSx t);refine⟨?_,?_⟩;rw[eI hb,dC (by rw[Qn];exact I)];rfl;unfold World.frozen?;rw[hb];simp
theorem kF{P fn}{p:Tmp}{ty}(h:fn.results=#[.cell p ty]){tmps:AV}g(cs:LV){d}
 (K:tmps.getD p undef=.pointer (some (az g 0))) (M:w.rangeAt g 0 cs) (O:P.underlying ty=some d) (hd:d.isRow=true) (hi:(P.info? ty).map (·.size)=some cs.length):
 (results fn tmps).run P w=.ok (.agg cs.toArray) w:=by
 have I:tmps[p]?.getD undef=.pointer (some (az g 0)):=by simpa using K
 simp[results,h,I,asAddr,run_loadVar_mid w g 0 ty cs d M O hd hi]
theorem qx(h:w.there b 0 n)(hb:Bl w w'):w'.there b 0 n:=by
 intro j M;have⟨K,O⟩:=h j M;have⟨u,V⟩:=Option.isSome_iff_exists.1 K;have I:=bL w _ V;rw[hb.cell (p:=az b (0+j)) I,hb.frozen (p:=az b (0+j)) I];exact⟨K,O⟩
theorem xm(h:w.there b 0 n){v}:(w.setCell (az k o) v).there b 0 n:=World.there_setCells h k o [v]
theorem pvS{k2 B2 M}(I:SxAt W k m n C B bar)(O:SxAt W k2 m n D B2 M)(K:r<=m)(V:j<=n)(hc:c<=n):
 W.cell? (az k (2+r*40+j*2))=some (ai (C r j).num)/\W.cell? (az k (2+r*40+j*2+1))=some (ai (C r j).den)/\W.cell? (az k (2+r*40+c*2))=some (ai (C r c).num)/\W.cell? (az k (2+r*40+c*2+1))=some (ai (C r c).den)/\
 (W.cell? (az k2 (2+r*40+j*2))).isSome=true/\(W.cell? (az k2 (2+r*40+j*2+1))).isSome=true/\W.frozen? (az k2 (2+r*40+j*2))=false/\W.frozen? (az k2 (2+r*40+j*2+1))=false:=by
 have hm:=I.lay.mle;have hn:=I.lay.nle;have e1:W.cell? (az k2 (2+r*40+j*2))=_:=O.lay.num r j K V;have e2:W.cell? (az k2 (2+r*40+j*2+1))=_:=O.lay.den r j K V;exact⟨I.lay.num r j K V,I.lay.den r j K V,I.lay.num r c K hc,I.lay.den r c K hc,by rw[e1];rfl,by rw[e2];rfl,O.free _ Oo,O.free _ Oo⟩
def X8(C:NQ)(r c j:Nat):NQ:=λa b=>if b<j then Cov.pivT C r c a b else C a b
def Zd(C:NQ)(r c j i:Nat):NQ:=λa b=>if b<j\/(b=j/\(a<i\/a=r)) then Cov.pivT C r c a b else C a b
theorem qEQ(h:C r j=0)a:Cov.pivT C r c a j=C a j:=by
 unfold Cov.pivT;split
 .rename_i e;rw[e,h];grind
 rw[h];grind
theorem qFf{a}(h:C a c=0)(I:a≠r)j:Cov.pivT C r c a j=C a j:=by
 unfold Cov.pivT;rw[fF I,h];grind
theorem JQ k m n(h:SxAt w k m n C B bar)r c(hr:r<m)(hc:c<n)
 (g5:C r c≠0) (e3:∀a b,a<=m->b<=n->Sm 41000 (C a b)) (d5:∀a b,a<=m->b<=n->Sm 41000 (Cov.pivT C r c a b)):
 Cl 217 #[.pointer (some (az k 0)),ai r,ai c] w λe w'=>∃V,e=.returned (.agg V)/\IsSx V m n (Cov.pivT C r c) (Cov.pivB B r c) bar/\Bl w w':=by
 have hn:=h.lay.nle;have hm:=h.lay.mle;have h7:=h.lt;change Hh _ at e3 d5;have⟨cs,c8⟩:=Ex (cellsOf w k);have hlen:cs.length=350:=by rw[c8];exact yD w k
 have a7:w.rangeAt k 0 cs:=by rw[c8];exact jS h
 have d7:IsSx cs.toArray m n C B bar:=by rw[c8];exact Vs h
 clear c8;change Hh _ at hlen a7;go_enter func217,ntmps217;go_upto_region 1 with (refine uD rfl rfl ?_);go_frame;go_cut [7] (λv wc=>v=.pointer (some (az (w.1.size+1) 0))/\Bl w wc/\wc.there w.1.size 0 350/\SxAt wc (w.1.size+1) m n C B bar)
 case first=>
  have HT:Hh (((aJ w zSx 248).alloc (.cells zSx 248)).there (w.1.size+1) 0 cs.toArray.size):=by
   have:=yi (aJ w zSx 248) 248;rw[show(aJ w zSx 248).1.size=w.1.size+1 by simp]at this;rw[show cs.toArray.size=350 by simpa using hlen.o];exact this
  have g6:Hh (((aJ w zSx 248).alloc (.cells zSx 248)).there (aJ w zSx 248).1.size 0 cs.toArray.size):=by
   rw[show cs.toArray.size=350 by simpa using hlen.o];exact yi (aJ w zSx 248) 248
  have HI:Hh ((Tryz.prog.info? 248).map (·.size)=some cs.length):=by
   show _=_;rw[hlen.o];exact jI
  have g7:Hh ((Tryz.prog.info? 248).map (·.size)=some cs.toArray.size):=by
   show _=_;rw[show cs.toArray.size=350 by simpa using hlen.o];exact jI
  have HO:=ay d7.one;have g8:=ay (World.rangeAt_alloc a7.o (.cells zSx 248));go_wp2_with (first|refine uD rfl rfl ?_|refine wpList_load_mid rfl 248 _ rfl k 0 Fl cs _ g8.o underlying248 Fl HI.o ?_|refine wpList_store_mid rfl 248 _ _ rfl _ 0 cs.toArray Fl Fl (by first|with_reducible exact g6.o|with_reducible exact HT.o) g7.o HO.o ?_);go_meet;refine⟨Ss,?_,?_,?_⟩;exact xX Ss _ _ _ ((aK).alloc Ss _);exact World.there_setCells (World.there_alloc (yi w _) _) _ _ _;have:=d7.stored (b:=w.1.size+1) (w:=(aJ w zSx 248).alloc (.cells zSx 248)) (by have:=HT.o;rw[show cs.toArray.size=350 by simpa using hlen.o]at this;exact this);simpa using this
 case rest=>
  obtain⟨rfl,hB,hT,hS⟩:=hcut;have hk:=h.below hB;have d8:=hk.lay.cols;have g9:=hS.lay.bas r hr;have h0:=hS.free (322+r) Oo;have e4:=hB.setCell (p:=az (w.1.size+1) (322+r)) Ss (ai (c:Nat));have e5:(sC wc (w.1.size+1) (322+r) (ai (c:Nat))).there w.1.size 0 350:=World.there_setCells hT (w.1.size+1) (322+r) [ai (c:Nat)];have e6:=hS.setBas hr c;have i1:(r:Int)<8:=Oo;have i2:(c:Int)<20:=Oo;clear hlen a7 d7;go_wp2;go_loopw [22] (λt wr=>∃j:Nat,j<=n+1/\t=ai j/\Bl w wr/\wr.there w.1.size 0 350/\SxAt wr (w.1.size+1) m n (X8 C r c j) (Cov.pivB B r c) bar) (λt _=>n+1-(intOf t).toNat);exact⟨0,eC,rfl,e4,e5,e6.congr (λ_ _ _ _=>fF Oo) (λ_ _=>rfl) (λ_ _=>rfl)⟩;obtain⟨j,hj,rfl,b8,c9,a9⟩:=hrel;clear hB hT hS d8 g9 h0 e4 e5 e6 hk;have b7:=h.below b8;by_cases h8:j<n+1
  .have i3:(j:Int)<n+1:=Oo;have i4:(j:Int)<20:=Oo;have⟨a1,a2⟩:=show aC wr k (2+r*40+j*2) (ai (C r j).num)/\wr.cell? (az k (2+r*40+j*2+1))=some (ai (C r j).den) from ⟨b7.lay.num r j Oo Oo,b7.lay.den r j Oo Oo⟩
   by_cases hz:C r j=0
   .have hs:(sgR (C r j) == 0)=true:=by rw[uZ hz];decide
    change Hh _ at hz;go_wp2_with (go_at_call 180;apply (jB (C r j)).mono;rintro e w' ⟨rfl,hb⟩);go_roundw
    case rel=>
     refine⟨j+1,Oo,Gg,bt b8 hb,λo ho=>?_,(a9.below hb).congr (λa b _ _=>?_) (λ_ _=>rfl) (λ_ _=>rfl)⟩;exact qx c9 hb o ho;unfold X8;by_cases e:b=j;rw[e,fE Oo,fF Oo,qEQ hz.o];by_cases e2:b<j;rw[fE Oo,fE e2];rw[fF Oo,fF e2]
    case measure=>simp[intOf];omega
   have hs:(sgR (C r j) == 0)=false:=by
    by_cases e:C r j<0;rw[uX e];decide;rw[uY Rr];decide
   have X1:=ay (e3.o r j Oo Oo);have X2:=ay (e3.o r c Oo Oo);have k2:=w.1.size+1;have hkne:w.1.size+1≠k:=Oo;have e7:=a9.lt;have⟨a3,a4⟩:=show aC wr k (2+r*40+c*2) (ai (C r c).num)/\wr.cell? (az k (2+r*40+c*2+1))=some (ai (C r c).den) from ⟨b7.lay.num r c Oo Oo,b7.lay.den r c Oo Oo⟩
   go_upto_region 7 with (go_at_call 180;apply (jB (C r j)).mono;rintro e w' ⟨rfl,O⟩);have a5:=b7.below O;have I:=a9.below O;have d0:=bt b8 O;have d1:=qx c9 O;go_cut [8] (λv wx=>v=ai j/\Bl w wx/\wx.there w.1.size 0 350/\SxAt wx (w.1.size+1) m n (Zd C r c j 0) (Cov.pivB B r c) bar)
   case first=>
    go_region_held3 (λw'=>aC w' k (2+r*40+j*2) (ai (C r j).num)/\aC w' k (2+r*40+j*2+1) (ai (C r j).den)/\aC w' k (2+r*40+c*2) (ai (C r c).num)/\aC w' k (2+r*40+c*2+1) (ai (C r c).den)/\(w'.cell? (az (w.1.size+1) (2+r*40+j*2))).isSome=true/\(w'.cell? (az (w.1.size+1) (2+r*40+j*2+1))).isSome=true/\w'.frozen? (az (w.1.size+1) (2+r*40+j*2))=false/\w'.frozen? (az (w.1.size+1) (2+r*40+j*2+1))=false)
     (first|exact pvS a5.drew I.drew Oo Oo (Oo)|exact pvS (a5.drew.below hb) (I.drew.below hb) Oo Oo (Oo)|exact pvS (((a5.drew.below hb).far _ hkne).far _ hkne) ((I.drew.below hb).setNum Oo Oo (C r j / C r c)) Oo Oo Oo)
     (first|go_at_call 275;apply (qDR (C r j) (C r c) X1.o X2.o Dd g5).mn;intro w' hb;have q1:=(I.drew.below hb).lay.num r j Oo Oo;have q2:=(I.drew.below hb).lay.den r j Oo Oo)
    go_wp2;go_meet;have a6:=eB.drew.trans hb;refine⟨rfl,((bt d0 a6).setCell Ss _).setCell Ss _,xm (xm (qx d1 a6)),((I.below a6).setNum Oo Oo (C r j / C r c)).congr (λa b _ _=>?_) (λ_ _=>rfl) (λ_ _=>rfl)⟩;unfold Zd X8;by_cases e:a=r/\b=j;rw[fE e,fE Oo,e.1,e.2];exact fE rfl;rw[fF e];by_cases e2:b<j;rw[fE (.inl e2),fE e2];rw[fF Oo,fF e2]
   case rest=>
    obtain⟨rfl,d9,e8,e9⟩:=hcut;clear b8 c9 a9 b7 a5 I d0 d1 a1 a2 a3 a4 e7 O;obtain⟨wo,rfl⟩:=Ex (wc:World);have f7:=(h.below d9).lay.rows;go_wp2;go_loopw [64] (λt wr=>∃i:Nat,i<=m+1/\t=ai i/\Bl w wr/\wr.there w.1.size 0 350/\SxAt wr (w.1.size+1) m n (Zd C r c j i) (Cov.pivB B r c) bar) (λt _=>m+1-(intOf t).toNat);exact⟨0,eC,rfl,d9,e8,e9⟩;obtain⟨i,hi,rfl,b9,d2,d3⟩:=hrel;clear d9 e8 e9 f7;have e0:=h.below b9;by_cases h9:i<m+1
    .have i5:(i:Int)<m+1:=Oo;have i6:(i:Int)<8:=Oo;by_cases c7:i=r
     .have h2:((i:Int) != (r:Int))=false:=Sy;have HI:=ay c7;clear c7;go_wp2;go_roundw
      case rel=>
       refine⟨i+1,Oo,Gg,b9,d2,d3.congr (λa b _ _=>?_) (λ_ _=>rfl) (λ_ _=>rfl)⟩;have:=HI.o;unfold Zd;by_cases e:b<j\/(b=j/\(a<i\/a=r));rw[fE e,fE Oo];rw[fF e,fF Oo]
      case measure=>simp[intOf];omega
     have h2:((i:Int) != (r:Int))=true:=Sy;have⟨b1,b2⟩:=show aC wr k (2+i*40+c*2) (ai (C i c).num)/\wr.cell? (az k (2+i*40+c*2+1))=some (ai (C i c).den) from ⟨e0.lay.num i c Oo Oo,e0.lay.den i c Oo Oo⟩
     by_cases e1:C i c=0
     .have hs2:(sgR (C i c) != 0)=false:=by rw[uZ e1];decide
      change Hh _ at e1;go_wp2_with (go_at_call 180;apply (jB (C i c)).mono;rintro e w' ⟨rfl,hb⟩);go_roundw
      case rel=>
       refine⟨i+1,Oo,Gg,bt b9 hb,qx d2 hb,(d3.below hb).congr (λa b _ _=>?_) (λ_ _=>rfl) (λ_ _=>rfl)⟩;unfold Zd;by_cases e:b<j\/(b=j/\(a<i\/a=r));rw[fE e,fE Oo];rw[fF e];by_cases e2:a=i/\b=j;rw[fE Oo,e2.1,e2.2,qFf e1.o c7];rw[fF Oo]
      case measure=>simp[intOf];omega
     have hs2:(sgR (C i c) != 0)=true:=by
      by_cases e:C i c<0;rw[uX e];decide;rw[uY Rr];decide
     have Y1:=ay (e3.o i j Oo Oo);have Y2:=ay (e3.o i c Oo Oo);have Y3:=ay (d5.o r j Oo Oo);have Y4:=ay (Y2.o.mul Y3.o);have a8:Hh (Zd C r c j i r j=Cov.pivT C r c r j):=fE Oo;go_upto_region 12 with (go_at_call 180;apply (jB (C i c)).mono;rintro e w' ⟨rfl,O⟩);have a5:=e0.below O;have I:=d3.below O;have d0:=bt b9 O;have d1:=qx d2 O;have keep:∀W D B2 d6,SxAt W k m n C B bar->SxAt W (w.1.size+1) m n D B2 d6->D r j=Cov.pivT C r c r j->aC W k (2+i*40+j*2) (ai (C i j).num)/\aC W k (2+i*40+j*2+1) (ai (C i j).den)/\aC W k (2+i*40+c*2) (ai (C i c).num)/\aC W k (2+i*40+c*2+1) (ai (C i c).den)/\aC W (w.1.size+1) (2+r*40+j*2) (ai (Cov.pivT C r c r j).num)/\aC W (w.1.size+1) (2+r*40+j*2+1) (ai (Cov.pivT C r c r j).den):=λW D B2 d6 g1 g2 g3=>
      ⟨g1.lay.num i j Oo Oo,g1.lay.den i j Oo Oo,g1.lay.num i c Oo Oo,g1.lay.den i c Oo Oo,by rw[<-g3];exact g2.lay.num r j Oo Oo,by rw[<-g3];exact g2.lay.den r j Oo Oo⟩
     change Hh _ at keep;go_region_held3 (λw'=>aC w' k (2+i*40+j*2) (ai (C i j).num)/\aC w' k (2+i*40+j*2+1) (ai (C i j).den)/\aC w' k (2+i*40+c*2) (ai (C i c).num)/\aC w' k (2+i*40+c*2+1) (ai (C i c).den)/\aC w' (w.1.size+1) (2+r*40+j*2) (ai (Cov.pivT C r c r j).num)/\aC w' (w.1.size+1) (2+r*40+j*2+1) (ai (Cov.pivT C r c r j).den))
      (first|exact keep.o _ _ _ _ a5.drew I.drew a8.o|exact keep.o _ _ _ _ (a5.drew.below hb) (I.drew.below hb) a8.o|exact keep.o _ _ _ _ ((a5.drew.below hb).below hb') ((I.drew.below hb).below hb') a8.o|exact keep.o _ _ _ _ ((((a5.drew.below hb).below hb').far _ hkne).far _ hkne) (((I.drew.below hb).below hb').setNum Oo Oo (C i j-C i c*Cov.pivT C r c r j)) ((fF (λe=>c7 e.1.symm)).trans a8.o))
      (first|go_at_call 276;apply (qEP (C i c) (Cov.pivT C r c r j) _ Y2.o Y3.o Dd).mono;rintro e w' ⟨rfl,hb⟩|go_at_call 179;apply (Ys (C i j) (C i c*Cov.pivT C r c r j) Y1.o Y4.o Dd).mn;intro w'' hb';have q1:=((I.drew.below hb).below hb').lay.num i j Oo Oo;have q2:=((I.drew.below hb).below hb').lay.den i j Oo Oo;have q3:w''.frozen? (az (w.1.size+1) (2+i*40+j*2))=false:=((I.drew.below hb).below hb').free _ Oo;have q4:w''.frozen? (az (w.1.size+1) (2+i*40+j*2+1))=false:=((I.drew.below hb).below hb').free _ Oo)
     go_wp2;go_roundw
     case measure=>simp[intOf];omega
     have a6:=bt (qf hb) hb';refine⟨i+1,Oo,Gg,((bt d0 a6).setCell Ss _).setCell Ss _,xm (xm (qx d1 a6)),((I.below a6).setNum Oo Oo (C i j-C i c*Cov.pivT C r c r j)).congr (λa b _ _=>?_) (λ_ _=>rfl) (λ_ _=>rfl)⟩;unfold Zd;by_cases e:a=i/\b=j;rw[fE e,fE Oo,e.1,e.2];unfold Cov.pivT;rw[fF c7,fE rfl];rw[fF e];by_cases e2:b<j\/(b=j/\(a<i\/a=r));rw[fE e2,fE Oo];rw[fF e2,fF Oo]
    obtain rfl:i=m+1:=Oo;have i5:¬((m:Int)+1<(m:Int)+1):=Oo;go_wp2;go_roundw
    case rel=>
     refine⟨j+1,Oo,Gg,b9,d2,d3.congr (λa b ha _=>?_) (λ_ _=>rfl) (λ_ _=>rfl)⟩;unfold Zd X8;by_cases e:b<j+1;rw[fE e,fE Oo];rw[fF e,fF Oo]
    case measure=>simp[intOf];omega
  obtain rfl:j=n+1:=Oo;have i3:¬((n:Int)+1<(n:Int)+1):=Oo;have⟨cz,d4⟩:=Ex (cellsOf wr (w.1.size+1));have M:cz.length=350:=by rw[d4];exact yD _ _
  have h3:Hh (wr.rangeAt (w.1.size+1) 0 cz):=by rw[d4];exact jS a9
  have K:IsSx cz.toArray m n (X8 C r c (n+1)) (Cov.pivB B r c) bar:=by rw[d4];exact Vs a9
  have h4:=ay K.one;have f8:Hh (wr.there w.1.size 0 cz.toArray.size):=by
   rw[show cz.toArray.size=350 by simpa using M];exact c9
  have f9:Hh ((Tryz.prog.info? 248).map (·.size)=some cz.length):=by
   show _=_;rw[M];exact jI
  have h5:Hh ((Tryz.prog.info? 248).map (·.size)=some cz.toArray.size):=by
   show _=_;rw[show cz.toArray.size=350 by simpa using M];exact jI
  clear d4;change Hh _ at M;go_wp2_with (first|refine wpList_load_mid rfl 248 _ rfl (w.1.size+1) 0 Fl cz _ h3.o underlying248 Fl f9.o ?_|refine wpList_store_mid rfl 248 _ _ rfl w.1.size 0 cz.toArray Fl Fl f8.o h5.o h4.o ?_);have g4:IsSx cz.toArray m n (Cov.pivT C r c) (Cov.pivB B r c) bar:=⟨K.1,⟨K.2.rows,K.2.cols,λa b ha hb=>(K.2.num a b ha hb).trans (by unfold X8;rw[fE Oo]),λa b ha hb=>(K.2.den a b ha hb).trans (by unfold X8;rw[fE Oo]),K.2.bas,K.2.bars,K.2.one,K.2.mle,K.2.nle⟩⟩;have h6:(wr.setCells w.1.size 0 cz.toArray.toList).rangeAt w.1.size 0 cz:=by
   have:=World.rangeAt_setCells_same wr w.1.size 0 cz.toArray.toList (by have:=f8.o;simpa using this);simpa using this
  refine aU (v:=.agg cz.toArray) (kF results217 w.1.size cz Fl h6 underlying248 Fl f9.o) rfl ⟨_,rfl,g4,xX eA _ _ _ b8⟩
end
variable {a b:Int}{c g i j k m n o r N:Nat}{bar g' p q:NB}{B B':NN}{A C T C':NQ}{t:TypeId}{v x y z:Value}{W W' w w':World}{cost:Nat->Int}{s:Cov.Sx}{F:Nat->Value}
theorem Yl(h:m<=7):Cov.fac m<=5040:=by
 match m,h with
 |0,_=>decide
 |1,_=>decide
 |2,_=>decide
 |3,_=>decide
 |4,_=>decide
 |5,_=>decide
 |6,_=>decide
 |7,_=>decide
def rc(cost:Nat->Int):NR:=λj=>((cost j:Int):Rat)
theorem ji(h:Cov.Inv m n A T B)(hA:∀j,j<=n->∀r,r<m->Cov.Whole 1 (A j r))(hm:m<=7)cost(hc:∀j,(cost j).natAbs<=1):
 (∀i,i<m->∀j,j<=n->Sm 41000 (T i j))/\(∀j,j<=n->∀i,i<=m->Sm 41000 (rc cost j-Cov.sm i (λI=>rc cost (B I)*T I j))):=by
 have⟨D,V,hD,hw⟩:=h.small hA;have hf:=Yl hm;have K:∀j,Cov.Whole 1 (rc cost j):=λj=>⟨cost j,rfl,hc j⟩;refine⟨λi hi j M=>zb V Oo (hw i hi j M) Oo,λj M i hi=>?_⟩;have e:(rc cost j-Cov.sm i (λI=>rc cost (B I)*T I j))*((D:Int):Rat)=rc cost j*((D:Int):Rat)+-(Cov.sm i (λI=>rc cost (B I)*(T I j*((D:Int):Rat)))):=by
  have e1:Cov.sm i (λI=>rc cost (B I)*(T I j*((D:Int):Rat)))=((D:Int):Rat)*Cov.sm i (λI=>rc cost (B I)*T I j):=by
   rw[<-Cov.sm_mul];exact Cov.sm_congr (λI _=>Rr)
  rw[e1];grind
 have ht:Cov.Whole (1*Cov.fac m+i*(1*Cov.fac m)) ((rc cost j-Cov.sm i (λI=>rc cost (B I)*T I j))*((D:Int):Rat)):=by
  rw[e];exact((K j).mul ⟨D,rfl,hD⟩).add (Cov.whole_sm (λI a3=>(K _).mul (hw I Oo j M))).neg
 refine zb V Oo ht ?_;have h1:i*(1*Cov.fac m)<=7*5040:=Nat.mul_le_mul Oo Oo;omega
def full(m:Nat)(cost:Nat->Int)(s:Cov.Sx):NQ:=λi j=>if i=m then Cov.red m (rc cost) s.T s.B j else s.T i j
theorem best_lt {g:NB} {b:Nat->NB}:∀{m o:Nat},Cov.best g b m=some o->o<m
  |0,_,h=>by cases h
  |m+1,o,h=>by
   unfold Cov.best at h;cases hb:Cov.best g b m with
   |none=>
    rw[hb]at h;simp only at h;split at h;simp only[oI]at h;omega;cases h
   |some o'=>
    rw[hb]at h;have:=best_lt hb;simp only at h;split at h;simp only[oI]at h;omega;simp only[oI]at h;omega
theorem Ym{g b I}:∀{m:Nat},(∀i,i<m->g i=g' i)->(∀i,i<m->∀o,o<m->b i o=I i o)->Cov.best g b m=Cov.best g' I m
 |0,_,_=>rfl
 |m+1,hg,hb=>by
  have K:=Ym (m:=m) (λi hi=>hg i Oo) (λi hi o ho=>hb i Oo o Oo);unfold Cov.best;rw[K,hg m Oo];cases hbm:Cov.best g' I m with
  |none=>rfl
  |some o=>
   have ho:=best_lt hbm;simp only;rw[hb m Oo o Oo]
theorem Xi:∀{n:Nat},(∀i,i<n->p i=q i)->Cov.first p n=Cov.first q n
 |0,_=>rfl
 |n+1,h=>by
  unfold Cov.first;rw[Xi (n:=n) (λi hi=>h i Oo),h n Oo]
theorem qDJ:Cov.first (λj=>!bar j&&decide (full m cost s m j<0)) n=Cov.enterOf m n (rc cost) bar s:=by
 unfold Cov.enterOf;refine Xi (λj _=>?_);unfold full;rw[fE rfl]
theorem qDK:Cov.best (λi=>decide (0<full m cost s i c)) (Cov.before (full m cost s) s.B n c) m=Cov.leaveOf m n s c:=by
 unfold Cov.leaveOf;have e:∀i,i<m->∀j,full m cost s i j=s.T i j:=λi hi j=>fF Oo;refine Ym (λi hi=>by rw[e i hi]) (λi hi o ho=>?_);unfold Cov.before;rw[e i hi,e i hi,e o ho,e o ho]
theorem qDL(h:Cov.Inv m n A s.T s.B)(I:r<m)(O:s.T r c≠0){a b}(V:a<=m):
 full m cost (Cov.pivS s r c) a b=Cov.pivT (full m cost s) r c a b:=by
 have e:∀i,i<m->∀j,full m cost s i j=s.T i j:=λi hi j=>fF Oo;have K:∀j,full m cost s m j=Cov.red m (rc cost) s.T s.B j:=λj=>fE rfl;by_cases M:a=m;subst M;rw[show full a cost (Cov.pivS s r c) a b=Cov.red a (rc cost) (Cov.pivT s.T r c) (Cov.pivB s.B r c) b from fE rfl,Cov.red_pivot h (rc cost) I O b];unfold Cov.pivT;rw[fF Oo,K,K,e r I,e r I];rw[show full m cost (Cov.pivS s r c) a b=Cov.pivT s.T r c a b from fF M];unfold Cov.pivT;rw[e r I,e r I,e a Oo,e a Oo]
theorem SxAt.there(h:SxAt w k m n C B bar):w.there k 0 350:=by
 intro j K;rw[cU];have⟨v,M,_⟩:=h.lay.one j K;have I:=M;rw[I];exact⟨rfl,h.free j K⟩
theorem JP w k m n A C0 s(h:SxAt w k m n C0 s.B bar)(hC:∀i,i<m->∀j,j<=n->C0 i j=s.T i j)(hz:∀j,j<=n->Sm 41000 (C0 m j))
 (hG:Cov.Good m n A bar s) (hA:∀j,j<=n->∀r,r<m->Cov.Whole 1 (A j r))  (O:∀j,(cost j).natAbs<=1):
 aF 175 #[.pointer (some (az k 0)),.agg (zL 20 (λj=>ai (cost j))).toArray] w (.tuple #[]) λw'=>Kb k w w'/\∃c8 s',Cov.Aim m n (rc cost) bar s c8 s'/\SxAt w' k m n (full m cost s') s'.B c8:=by
 have hm:=h.lay.mle;have hn:=h.lay.nle;have⟨K,d8,d9⟩:=Cov.halts (rc cost) hG;have a9:Hh (∀q,Cov.Good m n A bar (Cov.it m n (rc cost) bar s q)):=λq=>hG.it q;have e0:Hh (∀q,(∀a b,a<=m->b<=n->Sm 41000 (full m cost (Cov.it m n (rc cost) bar s q) a b))):=by
  intro q a b ha hb;have⟨g1,g2⟩:=ji (a9 q).inv hA hm _ O;unfold full;split;exact g2 b hb m eA;exact g1 a Oo b hb
 have b1:∀j i,j<=n->i<=m->Sm 41000 (part cost C0 s.B j i):=by
  intro j i hj hi;have⟨_,g2⟩:=ji hG.inv hA hm _ O;have:=g2 j hj i hi;have e:part cost C0 s.B j i=rc cost j-Cov.sm i (λi'=>rc cost (s.B i')*s.T i' j):=by
   unfold part rc;congr 1;exact Cov.sm_congr (λi' g4=>by rw[hC i' Oo j hj])
  rw[e];exact this
 have c9:∀a b,a<=m->b<=n->Sm 41000 (C0 a b):=by
  intro a b ha hb;by_cases e:a=m;rw[e];exact hz b hb;have⟨g1,_⟩:=ji hG.inv hA hm _ O;rw[hC a Oo b hb];exact g1 a Oo b hb
 have PR:=ay (λwx hx=>qBw wx k m n bar hx O hG.inv.lt c9 b1);have b9:Hh (∀wx,SxAt wx k m n (kG cost C0 s.B m (n+1)) s.B bar->SxAt wx k m n (full m cost s) s.B bar):=by
  intro wx hx;refine hx.congr (λa b ha hb=>?_) (λ_ _=>rfl) (λ_ _=>rfl);unfold full kG;by_cases e:a=m;rw[fE e,fE ⟨e,Oo⟩];unfold Cov.red part rc;congr 1;exact Cov.sm_congr (λi' g4=>by rw[hC i' Oo b hb]);rw[fF e,fF Oo,hC a Oo b hb]
 clear b1 c9 O hz hC;change Hh _ at hA d8 d9 hG;have HR:=ay (qj w 20 (λj=>ai (cost j)) 253).range;have HI:Hh ((Tryz.prog.info? 253).map (·.size)=some (zL 20 (λj=>ai (cost j))).length):=by
  show _=_;rw[jA];exact Yn
 go_enter func175,ntmps175;go_wp2_with (refine wpList_load_mid rfl 253 _ rfl _ 0 Fl (zL 20 (λj=>ai (cost j))) _ HR underlying253 Fl HI ?_);apply (PR.o _ (h.alloc (.cells (zL 20 (λj=>ai (cost j))).toArray 253))).mn;rintro w1 ⟨e3,hs1⟩;have d2:=(Kb.of_below aK).trans e3;have d3:=b9 _ hs1;clear e3 hs1 HR HI;go_wp2_with fail;go_loopg [4] K (λg _ wr=>∃q:Nat,q<=K/\g=K-q/\Kb k w wr/\SxAt wr k m n (full m cost (Cov.it m n (rc cost) bar s q)) (Cov.it m n (rc cost) bar s q).B bar)
 case atStart=>exact⟨0,eC,Oo,d2,d3⟩
 case round=>
  have⟨q,hq,e4,hkb,hs⟩:=hrel;clear d2 d3;change Hh _ at e4;have⟨M,a5⟩:=Ex (Cov.it m n (rc cost) bar s q);have g6:Hh (Cov.Good m n A bar M):=by rw[a5];exact a9 q
  have e5:Hh (∀a b,a<=m->b<=n->Sm 41000 (full m cost M a b)):=by rw[a5];exact e0 q
  have e6:Hh (∀a b,a<=m->b<=n->Sm 41000 (full m cost (Cov.nxt m n (rc cost) bar M) a b)):=by rw[a5];exact e0 (q+1)
  change Hh _ at a5;rw[<-a5]at hs;go_wp2_with fail;apply (Vp k m n hs).mn;intro w2 e7;rw[qDJ];have hs2:=hs.below e7;have a4:=hkb.step e7;clear hs hkb;cases he:Cov.enterOf m n (rc cost) bar M with
  |none=>
   have I:Hh (Cov.stepOf m n (rc cost) bar M=none):=by
    show _=_;unfold Cov.stepOf;rw[he]
   clear he;rw[show Cov.idx none=-1 from rfl];go_wp2_with fail;apply (Km (-1) Dd).mn;intro w3 b7;have a7:=hs2.below b7;have a3:=a4.step b7;clear hs2 a4;have a8:q=K:=by
    by_cases e:q<K;exact absurd I (by rw[a5.o];exact d9 q e);omega
   have b8:Hh (Cov.Aim m n (rc cost) bar s (Cov.narrowed m n (rc cost) bar M) M):=⟨K,d8,d9,by rw[a5.o,a8],rfl⟩;clear a8;go_wp2_with fail;apply (ZZ k m n a7).mn;rintro w4 ⟨d5,hs4⟩;go_wp2;go_end0
   refine⟨rfl,a3.trans d5,_,M,b8.o,hs4.congr (λ_ _ _ _=>rfl) (λ_ _=>rfl) (λj hj=>?_)⟩;unfold Cov.narrowed full;rw[fE rfl]
  |some c=>
   have hc:=(Cov.first_some he).1;rw[show Cov.idx (some c)=(c:Int) from rfl];change Hh _ at he;go_wp2_with fail;apply (Kn k m n hs2 c hc e5.o).mn;intro w3 b7;rw[qDK];have a7:=hs2.below b7;have a3:=a4.step b7;clear hs2 a4;cases hl:Cov.leaveOf m n M c with
   |none=>
    have I:Hh (Cov.stepOf m n (rc cost) bar M=none):=by
     show _=_;unfold Cov.stepOf;rw[he.o];simp only;rw[hl]
    clear hl;rw[show Cov.idx none=-1 from rfl];have a8:q=K:=by
     by_cases e:q<K;exact absurd I (by rw[a5.o];exact d9 q e);omega
    have b8:Hh (Cov.Aim m n (rc cost) bar s (Cov.narrowed m n (rc cost) bar M) M):=⟨K,d8,d9,by rw[a5.o,a8],rfl⟩;clear a8;go_wp2_with fail;apply (ZZ k m n a7).mn;rintro w4 ⟨d5,hs4⟩;go_wp2;go_end0
    refine⟨rfl,a3.trans d5,_,M,b8.o,hs4.congr (λ_ _ _ _=>rfl) (λ_ _=>rfl) (λj hj=>?_)⟩;unfold Cov.narrowed full;rw[fE rfl]
   |some r=>
    have I:Cov.stepOf m n (rc cost) bar M=some (r,c):=by
     unfold Cov.stepOf;rw[he.o];simp only;rw[hl]
    have⟨hr,_,_,_,_,e8,_⟩:=Cov.step_some I;have d6:M.T r c≠0:=Rr;have d7:Cov.nxt m n (rc cost) bar M=Cov.pivS M r c:=Cov.nxt_some I;have a8:q<K:=by
     by_cases e:q<K;exact e;exfalso;have e2:q=K:=Oo;have:=d8.o;rw[<-e2,<-a5.o,I]at this;cases this
    have hpv:Hh (∀a b,a<=m->Cov.pivT (full m cost M) r c a b=full m cost (Cov.pivS M r c) a b):=λa b ha=>(qDL g6.o.inv hr d6 ha).symm;have e9:Hh (∀a b,a<=m->b<=n->Sm 41000 (Cov.pivT (full m cost M) r c a b)):=λa b ha hb=>by
     rw[hpv.o a b ha,<-d7];exact e6 a b ha hb
    have f7:Hh (full m cost M r c≠0):=by
     show _≠_;unfold full;rw[fF Oo];exact d6
    have HN:Hh (Cov.it m n (rc cost) bar s (q+1)=Cov.pivS M r c):=by
     show Cov.nxt m n (rc cost) bar (Cov.it m n (rc cost) bar s q)=_;rw[<-a5.o];exact d7
    clear hl I e8 d7 d6;rw[show Cov.idx (some r)=(r:Int) from rfl];have i1:¬((r:Int)<0):=Oo;go_wp2_with fail;apply (JQ k m n a7 r c hr hc f7.o e5.o e9.o).mono;rintro e w4 ⟨V,rfl,hV,f8⟩;have hs4:=a7.below f8;have f9:=a3.step f8
    have HI:Hh ((Tryz.prog.info? 248).map (·.size)=some V.size):=by
     show _=_;rw[hV.1];exact jI
    clear a7 a3;go_wp2_with (refine wpList_store_mid rfl 248 _ _ rfl k 0 V Fl Fl (by exact by rw[hV.1];exact hs4.there) HI hV.one ?_);go_roundg (K-(q+1))
    case measure=>have:=e4.o;omega
    case rel=>
     refine⟨q+1,Oo,rfl,Xm _ _ _ f9,?_⟩;rw[HN.o];exact (hV.stored hs4.there).congr (λa b ha _=>(hpv a b ha).symm) (λ_ _=>rfl) (λ_ _=>rfl)
theorem ZI w(u:Nat)(a:OA)len cap below(I:u<=7)(hl:len<=7):
 aG 211 #[.agg #[ai u,.slice a len cap,.bool below]] w (ai ((if below then u+len+len else u+len:Nat):Int)):=by
 cases below
 .go_enter func211,ntmps211;go_wp2;go_ret;exact⟨qa Ss,by go_grown⟩
 go_enter func211,ntmps211;go_wp2;go_ret;exact⟨qa Oo,by go_grown⟩
def IntsAt(w:World)(v:Value)(l:LN):Prop:=∃a cap,v=.slice a l.length cap/\∀j,j<l.length->∃b o,a=some (az b o)/\w.cell? (az b (o+j))=some (ai (l.getD j 0:Nat))
def RowsAt(w:World)(v:Value)(L:List (LN)):Prop:=∃a cap,v=.slice a L.length cap/\∀i,i<L.length->∃b o x,a=some (az b o)/\w.cell? (az b (o+i))=some x/\IntsAt w x (L.getD i [])
theorem IntsAt.below{l}(h:IntsAt w v l)(hb:Bl w w'):IntsAt w' v l:=by
 obtain⟨a,cap,rfl,h⟩:=h;refine⟨a,cap,rfl,λj K=>?_⟩;have⟨b,o,e,I⟩:=h j K;exact⟨b,o,e,(hb.cell (bL w _ I)).trans I⟩
theorem RowsAt.below{L}(h:RowsAt w v L)(hb:Bl w w'):RowsAt w' v L:=by
 obtain⟨a,cap,rfl,h⟩:=h;refine⟨a,cap,rfl,λi hi=>?_⟩;have⟨b,o,x,e,I,K⟩:=h i hi;exact⟨b,o,x,e,(hb.cell (bL w _ I)).trans I,K.below hb⟩
def yE(u:Nat)(L:List (LN))(below:Bool):NQ:=
 let m:=L.length
 let n:=if below then u+m+m else u+m
 λi j=>if i<m then (if j=n then 1 else if j<u then (if (L.getD i []).contains j then 1 else 0) else if n-m+i=j then 1 else if below/\j=u+i then -1 else 0) else 0
theorem Kv a b w:(Instr.build 248 #[(0,ai a),(1,ai b)]).run Tryz.prog w=.ok (.agg ((zSx.set! 0 (ai a)).set! 1 (ai b))) w:=Kl
theorem ArrAt.alloc{f}(h:ArrAt w k N f)(I:0<N)o:ArrAt (w.alloc o) k N f:=h.move (eL (h.lt I))
def f3(x y z:Value):Nat->Value
 |0=>x
 |1=>y
 |_=>z
theorem ArrAt.three(h:ArrAt w k 3 (f3 x y z)):w.cell? (az k 0)=some x/\w.cell? (az k 1)=some y/\w.cell? (az k 2)=some z:=⟨h.cell 0 Oo,h.cell 1 Oo,h.cell 2 Oo⟩
def bSx(a b:Int):AV:=(zSx.set! 0 (ai a)).set! 1 (ai b)
theorem JR a b w:(Instr.build 248 #[(0,ai a),(1,ai b)]).run Tryz.prog w=.ok (.agg (bSx a b)) w:=Kv a b w
theorem qHH(h:o<350):zSx[o]?=some (if o<330 then ai 0 else .bool false):=by
 unfold zSx;rw[Array.getElem?_append];by_cases e:o<330;rw[fE (by simpa using e),fE e,Array.getElem?_replicate,fE e];rw[fF (by simpa using e),fF e,Array.getElem?_replicate,fE Sy]
theorem qHI(h:o<350):(bSx a b)[o]?=some (if o=0 then ai a else if o=1 then ai b else if o<330 then ai 0 else .bool false):=by
 unfold bSx;rw[Array.set!_eq_setIfInBounds,Array.set!_eq_setIfInBounds,Array.getElem?_setIfInBounds,Array.getElem?_setIfInBounds,qHH h];by_cases I:o=0;subst I;simp[Qn];by_cases K:o=1;subst K;simp[Qn];rw[fF Oo,fF Oo,fF I,fF K]
theorem qFg a b:(bSx a b).size=350:=by simp[bSx,Qn]
theorem qFh:zeroCells248=zSx:=Kl
def zl(a b:Int):LV:=(bSx a b).toList
theorem Kw a b:zl a b=(bSx a b).toList:=rfl
theorem qFi a b:(zeroCells248.toList.set 0 (ai a)).set 1 (ai b)=zl a b:=by
 rw[qFh];unfold zl bSx;simp
theorem uE a b:(zl a b).length=350:=by rw[Kw];simpa using qFg a b
theorem Ux(h:o<350):(zl a b)[o]?=some (if o=0 then ai a else if o=1 then ai b else if o<330 then ai 0 else .bool false):=by
 rw[Kw,dY];exact qHI h
theorem qEV a b:∀v∈zl a b,v.oneCell'=true:=by
 intro v hv;have⟨j,I,e⟩:=List.mem_iff_getElem.1 hv;rw[uE]at I;have:=Ux (a:=a) (b:=b) I;rw[gE (by rw[uE];exact I),e]at this;simp only[oI]at this;rw[this];repeat' split
 all_goals rfl
theorem Xo a b W g(I:W.there g 0 350):
 (storeCells (az g 0) ((zeroCells248.toList.set 0 (ai a)).set 1 (ai b))).run Tryz.prog W=.ok () (W.setCells g 0 (zl a b)):=by
 have hl:=uE a b;rw[qFi];exact run_storeCells_cells g 0 _ 0 W (λj K=>by have:=(I j Oo).1;simpa using this) (λj K=>by have:=(I j Oo).2;simpa using this) (qEV a b)
theorem Ky(m n:Nat)(I:W.there g 0 350):
 (∀o,o<350->(W.setCells g 0 (zl m n)).cell? (az g o)=some (if o=0 then ai m else if o=1 then ai n else if o<330 then ai 0 else .bool false))/\∀o,o<350->(W.setCells g 0 (zl m n)).frozen? (az g o)=false:=by
 refine⟨λo ho=>?_,λo ho=>?_⟩;have:=World.rangeAt_setCells_same W g 0 (zl m n) (by rw[uE];exact I) o _ (Ux ho);rwa[cU]at this;have:=(World.there_setCells I g 0 (zl m n) o ho).2;rwa[cU]at this
theorem vO g:∀(vs:LV) (o:Nat) (W:World) (k:Nat),k≠g->(W.setCells g o vs).1[k]?=W.1[k]?
 |[],_,_,_,_=>rfl
 |v::r,o,W,k,h=>by
  rw[World.setCells,vO g r (o+1) _ k h];exact eG h
theorem Qo(w:World)t:(w.alloc (.cells zeroCells248 t)).there w.1.size 0 350:=by rw[qFh];exact yi w t
structure Z0(W:World)(g m n i j:Nat):Prop where
 rows:W.cell? (az g 0)=some (ai m)
 cols:W.cell? (az g 1)=some (ai n)
 zero:∀a b,a<=m->b<=n->(a<i\/a=i/\b<j)->W.cell? (az g (2+a*40+b*2))=some (ai 0)/\W.cell? (az g (2+a*40+b*2+1))=some (ai 1)
 bas:∀a,a<m->W.cell? (az g (322+a))=some (ai 0)
 bars:∀b,b<n->W.cell? (az g (330+b))=some (.bool false)
 one:∀o,o<350->∃v,W.cell? (az g o)=some v/\v.oneCell'=true
 free:∀o,o<350->W.frozen? (az g o)=false
theorem Z0.start(M:m<=7)(O:n<=19)(I:∀o,o<350->W.cell? (az g o)=some (if o=0 then ai m else if o=1 then ai n else if o<330 then ai 0 else .bool false))(K:∀o,o<350->W.frozen? (az g o)=false):Z0 W g m n 0 0 where
 rows:=I 0 Oo
 cols:=I 1 Oo
 zero a b _ _ h:=Oo
 bas a ha:=by rw[I (322+a) Oo,fF Oo,fF Oo,fE Oo]
 bars b hb:=by rw[I (330+b) Oo,fF Oo,fF Oo,fF Oo]
 one o ho:=⟨_,I o ho,by(repeat' split) <;> rfl⟩
 free:=K
theorem Z0.below(h:Z0 W g m n i j)(hb:Bl W W'):Z0 W' g m n i j:=by
 have M:g<W.1.size:=bL W _ h.rows;have I:=λo=>hb.cell (p:=az g o) M;exact⟨(I _).trans h.rows,(I _).trans h.cols,λa b K hb' hl=>⟨(I _).trans (h.zero a b K hb' hl).1,(I _).trans (h.zero a b K hb' hl).2⟩,λa K=>(I _).trans (h.bas a K),λb hb'=>(I _).trans (h.bars b hb'),λo ho=>by rw[I];exact h.one o ho,λo ho=>(hb.frozen M).trans (h.free o ho)⟩
theorem Z0.step(h:Z0 W g m n i j)(hi:i<=m)(hj:j<=n)(hm:m<=7)(hn:n<=19):
 Z0 ((W.setCell (az g (2+i*40+j*2)) (ai 0)).setCell (az g (2+i*40+j*2+1)) (ai 1)) g m n i (j+1):=by
 have ne:∀(X:World) (a b:Nat) (v:Value),a≠b->(sC X g b v).cell? (az g a)=X.cell? (az g a):=λX a b v hab=>eE (by intro I;simp only[Addr.mk.injEq]at I;omega);have⟨v0,c0,_⟩:=h.one (2+i*40+j*2) Oo;have⟨v1,c1,_⟩:=h.one (2+i*40+j*2+1) Oo;have s0:aC ((sC W g (2+i*40+j*2) (ai 0)).setCell (az g (2+i*40+j*2+1)) (ai 1)) g (2+i*40+j*2) (ai 0):=(ne _ _ _ _ Oo).trans (eJ c0);have s1:aC ((sC W g (2+i*40+j*2) (ai 0)).setCell (az g (2+i*40+j*2+1)) (ai 1)) g (2+i*40+j*2+1) (ai 1):=eJ ((ne _ _ _ _ Oo).trans c1);have oth:∀o,o≠2+i*40+j*2->o≠2+i*40+j*2+1->((sC W g (2+i*40+j*2) (ai 0)).setCell (az g (2+i*40+j*2+1)) (ai 1)).cell? (az g o)=W.cell? (az g o):=λo O V=>(ne _ _ _ _ V).trans (ne _ _ _ _ O);refine⟨(oth 0 Oo Oo).trans h.rows,(oth 1 Oo Oo).trans h.cols,λa b K hb hl=>?_,λa K=>(oth _ Oo Oo).trans (h.bas a K),λb hb=>(oth _ Oo Oo).trans (h.bars b hb),λo ho=>?_,λo ho=>by rw[fS,fS];exact h.free o ho⟩
 .by_cases e:a=i/\b=j;obtain⟨rfl,rfl⟩:=e;exact⟨s0,s1⟩;have:=h.zero a b K hb Oo;exact⟨(oth _ Oo Oo).trans this.1,(oth _ Oo Oo).trans this.2⟩
 by_cases M:o=2+i*40+j*2;subst M;exact⟨_,s0,rfl⟩;by_cases I:o=2+i*40+j*2+1;subst I;exact⟨_,s1,rfl⟩;rw[oth o M I];exact h.one o ho
theorem Z0.next(h:Z0 W g m n i (n+1)):Z0 W g m n (i+1) 0:=
 ⟨h.rows,h.cols,λa b I hb hl=>h.zero a b I hb Oo,h.bas,h.bars,h.one,h.free⟩
theorem Z0.done(h:Z0 W g m n (m+1) 0)(K:m<=7)(M:n<=19):SxAt W g m n (λ_ _=>0) (λ_=>0) (λ_=>false):=
 ⟨⟨h.rows,h.cols,λi j hi I=>(h.zero i j hi I Oo).1,λi j hi I=>(h.zero i j hi I Oo).2,h.bas,h.bars,h.one,K,M⟩,h.free⟩
def x9(u:Nat)(L:List (LN))(below:Bool)(i q:Nat):NQ:=λa b=>if a<i then yE u L below a b else if a=i/\b∈(L.getD i []).take q then 1 else 0
theorem Yy u L below a b:x9 u L below 0 0 a b=0:=by
 unfold x9;rw[fF Oo];simp
theorem qBx u L below i q(hq:q<(L.getD i []).length)a b:
 x9 u L below i (q+1) a b=if a=i/\b=(L.getD i []).getD q 0 then 1 else x9 u L below i q a b:=by
 unfold x9;by_cases K:a<i;rw[fE K,fF Oo,fE K];rw[fF K,fF K];have V:b∈(L.getD i []).take (q+1)↔b∈(L.getD i []).take q\/b=(L.getD i []).getD q 0:=by
  generalize L.getD i []=l at *;rw[tA,gE hq,gD,gE hq,cF];simp only[Option.toList_some,cI,dI]
 by_cases I:a=i
 .by_cases M:b=(L.getD i []).getD q 0;rw[fE ⟨I,V.2 (.inr M)⟩,fE ⟨I,M⟩];rw[fF (show ¬(a=i/\b=(L.getD i []).getD q 0) from λh=>M h.2)];by_cases O:b∈(L.getD i []).take q;rw[fE ⟨I,V.2 (.inl O)⟩,fE ⟨I,O⟩];rw[fF (λh=>by rcases V.1 h.2 with h5|h5;exact O h5;exact M h5),fF (λh=>O h.2)]
 rw[fF (λh=>I h.1),fF (λh=>I h.1),fF (λh=>I h.1)]
theorem qDU u L(below:Bool)n i(I:n=if below then u+L.length+L.length else u+L.length)(hi:i<L.length)(K:∀j∈L.getD i [],j<u)a b:
 x9 u L below (i+1) 0 a b=if a=i/\b=n then 1 else if a=i/\b=n-L.length+i then 1 else if below=true/\a=i/\b=u+i then -1 else x9 u L below i (L.getD i []).length a b:=by
 have M:∀(l:LN) (x:Nat),l.contains x=decide (x∈l):=λl x=>by
  by_cases hb:x∈l;rw[fD hb];exact List.contains_iff_mem.2 hb;rw[fC hb];cases M:l.contains x
  rfl;exact absurd (List.contains_iff_mem.1 M) hb
 unfold x9 yE;simp only[<-I,M,dE,tL];generalize hl:L.getD i []=l at *;have V:=K;by_cases O:a=i
 .subst O;simp only[hl];cases below
  simp only[Bool.false_eq_true,if_false]at I;grind;simp only[if_true]at I;grind
 grind
theorem qHJ(m n:Nat)(I:Bl w W)(O:W.there (w.1.size+1) 0 350)(V:ArrAt W w.1.size 3 F)(a3:w.1.size+1<W.1.size)(hb:Bl W w'):
 w.1.size+1<w'.1.size/\Bl w ((w'.alloc (.cells zeroCells248 t)).setCells w'.1.size 0 (zl m n))/\((w'.alloc (.cells zeroCells248 t)).setCells w'.1.size 0 (zl m n)).there (w.1.size+1) 0 350/\ArrAt ((w'.alloc (.cells zeroCells248 t)).setCells w'.1.size 0 (zl m n)) w.1.size 3 F/\
 (∀o,o<350->((w'.alloc (.cells zeroCells248 t)).setCells w'.1.size 0 (zl m n)).cell? (az w'.1.size o)=some (if o=0 then ai m else if o=1 then ai n else if o<330 then ai 0 else .bool false))/\∀o,o<350->((w'.alloc (.cells zeroCells248 t)).setCells w'.1.size 0 (zl m n)).frozen? (az w'.1.size o)=false:=by
 have hs:=hb.size;have K:Bl w' (aJ w' zeroCells248 t):=aK;have M:=Ky m n (Qo w' t);refine⟨Oo,?_,?_,?_,M.1,M.2⟩;exact yd (O1 I.size) _ _ _ (bt (bt I hb) K);exact World.there_setCells (qx (qx O hb) K) _ _ _;exact((V.below Oo hb).alloc Oo _).move (vO _ _ _ _ _ Oo)
theorem qHK(m n:Nat)(I:Bl w W)(O:W.there (w.1.size+1) 0 350)(h3:ArrAt W w.1.size 3 F)(V:w.1.size+1<W.1.size)(hb:Below (W.alloc (.cells zeroCells248 t)).1.size (W.alloc (.cells zeroCells248 t)) w'):
 w.1.size+1<W.1.size/\Bl w (w'.setCells W.1.size 0 (zl m n))/\(w'.setCells W.1.size 0 (zl m n)).there (w.1.size+1) 0 350/\ArrAt (w'.setCells W.1.size 0 (zl m n)) w.1.size 3 F/\
 (∀o,o<350->(w'.setCells W.1.size 0 (zl m n)).cell? (az W.1.size o)=some (if o=0 then ai m else if o=1 then ai n else if o<330 then ai 0 else .bool false))/\∀o,o<350->(w'.setCells W.1.size 0 (zl m n)).frozen? (az W.1.size o)=false:=by
 have K:Bl W (aJ W zeroCells248 t):=aK;have M:=Ky m n (qx (Qo W t) hb);refine⟨V,?_,?_,?_,M.1,M.2⟩;exact yd (O1 I.size) _ _ _ (bt (bt I K) hb);exact World.there_setCells (qx (qx O K) hb) _ _ _;exact((h3.alloc Oo _).below Oo hb).move (vO _ _ _ _ _ Oo)
structure STt(w W:World)(g:Nat)(F:Nat->Value)(m n:Nat)(C:NQ)(B:NN):Prop where
 bel:Bl w W
 oth:W.there (w.1.size+1) 0 350
 arg:ArrAt W w.1.size 3 F
 sx:SxAt W g m n C B (λ_=>false)
 gt:w.1.size+1<g
theorem STt.below(h:STt w W g F m n C B)(hb:Bl W W'):STt w W' g F m n C B:=
 ⟨bt h.bel hb,qx h.oth hb,h.arg.below Oo hb,h.sx.below hb,h.gt⟩
theorem STt.put(h:STt w W g F m n C B)(hi:i<=m)(I:j<=n)q:
 STt w ((W.setCell (az g (2+i*40+j*2)) (ai q.num)).setCell (az g (2+i*40+j*2+1)) (ai q.den)) g F m n (λa b=>if a=i/\b=j then q else C a b) B:=
 have K:=h.gt
 ⟨(h.bel.setCell (by show w.1.size<=g;omega) _).setCell (by show w.1.size<=g;omega) _,xm (xm h.oth),(h.arg.move (eG (by show w.1.size≠g;omega))).move (eG (by show w.1.size≠g;omega)),h.sx.setNum hi I q,K⟩
theorem STt.bas(h:STt w W g F m n C B)(hi:i<m)b:
 STt w (W.setCell (az g (322+i)) (ai (b:Nat))) g F m n C (λa=>if a=i then b else B a):=
 have I:=h.gt
 ⟨h.bel.setCell (by show w.1.size<=g;omega) _,xm h.oth,h.arg.move (eG (by show w.1.size≠g;omega)),h.sx.setBas hi b,I⟩
theorem STt.congr(h:STt w W g F m n C B)(I:∀i j,i<=m->j<=n->C' i j=C i j)(hB:∀i,i<m->B' i=B i):STt w W g F m n C' B':=
 ⟨h.bel,h.oth,h.arg,h.sx.congr I hB (λ_ _=>rfl),h.gt⟩
theorem STt.cells(h:STt w W g F m n C B)(hi:i<=m)(I:j<=n):
 W.cell? (az g (2+i*40+j*2))=some (ai (C i j).num)/\W.cell? (az g (2+i*40+j*2+1))=some (ai (C i j).den)/\W.frozen? (az g (2+i*40+j*2))=false/\W.frozen? (az g (2+i*40+j*2+1))=false:=by
 have K:=h.sx.lay.mle;have M:=h.sx.lay.nle;exact⟨h.sx.lay.num i j hi I,h.sx.lay.den i j hi I,h.sx.free _ Oo,h.sx.free _ Oo⟩
theorem Yw{z}(K:z=n-m+i)a:(if a<i+1 then n-m+a else 0)=if a=i then z else if a<i then n-m+a else 0:=by
 by_cases e:a=i;rw[fE Oo,fE e];omega;rw[fF e];by_cases I:a<i;rw[fE Oo,fE I];rw[fF Oo,fF I]
theorem wrap_small(n:Nat)(h:n<9223372036854775808):IntKind.i64.wrap (n:Int)=n:=by
 simp[IntKind.wrap,IntKind.bits,IntKind.signed];omega
