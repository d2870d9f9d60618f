import Derived.Test.YtcnfapnfmnolbaaGreatRq15
set_option maxHeartbeats 40000000
set_option maxRecDepth 1000000
namespace Go.Proofs.YtcnfapnfmnolbaaGreat
open Go.RowKit
variable {N b i j k m n o:Nat}{bar:Nat->Bool}{B:Nat->Nat}{C:Nat->Nat->Rat}{a w w' wr:World}
section
variable {w:World} {k m n:Nat} {C:Nat->Nat->Rat} {B:Nat->Nat} {bar:Nat->Bool}
def cellsOf(w:World)(k:Nat):List Value:=(List.range 350).map λo=>(w.cell? (az k o)).getD undef
theorem xm(w:World)(k:Nat):(cellsOf w k).length=350:=by simp[cellsOf]
theorem Zn(h:SxAt w k m n C B bar)(ho:o<350):(cellsOf w k)[o]?=w.cell? (az k o):=by
 obtain⟨v,K,_⟩:=h.lay.one o ho;have I:w.cell? (az k o)=some v:=K;unfold cellsOf;rw[bK,List.getElem?_range ho];simp[I]
theorem ud(h:SxAt w k m n C B bar):w.rangeAt k 0 (cellsOf w k):=by
 intro j v hv;have I:j<350:=by rw[<-xm w k];exact(List.getElem?_eq_some_iff.1 hv).1
 rw[Zn h I]at hv;rw[Nat.zero_add];exact hv
def IsSx(V:Array Value)(m n:Nat)(C:Nat->Nat->Rat)(B:Nat->Nat)(bar:Nat->Bool):Prop:=V.size=350/\Lay (λo=>V[o]?) m n C B bar
theorem Yo(h:SxAt w k m n C B bar):IsSx (cellsOf w k).toArray m n C B bar:=by
 have I:∀o,o<350->(cellsOf w k).toArray[o]?=w.cell? (az k o):=λo ho=>by simpa using Zn h ho
 have M:=h.lay.mle;have O:=h.lay.nle;refine⟨by simp[xm],⟨?_,?_,λi j hi K=>?_,λi j hi K=>?_,λi hi=>?_,λj K=>?_,λo ho=>?_,M,O⟩⟩;show _=_;rw[I 0 Oo];exact h.lay.rows;show _=_;rw[I 1 Oo];exact h.lay.cols;show _=_;rw[I _ Oo];exact h.lay.num i j hi K;show _=_;rw[I _ Oo];exact h.lay.den i j hi K;show _=_;rw[I _ Oo];exact h.lay.bas i hi;show _=_;rw[I _ Oo];exact h.lay.bars j K;obtain⟨v,U,V⟩:=h.lay.one o ho;exact⟨v,(I o ho).trans U,V⟩
theorem IsSx.one{V:Array Value}(h:IsSx V m n C B bar):V.all (·.oneCell')=true:=by
 rw[Array.all_eq_true_iff_forall_mem];intro v hv;obtain⟨j,M,e⟩:=Array.mem_iff_getElem.1 hv;have K:j<350:=by rw[<-h.1];exact M
 obtain⟨u,O,U⟩:=h.2.one j K;have I:V[j]?=some u:=O;rw[Array.getElem?_eq_getElem M,e]at I;simp only[Option.some.injEq]at I;rw[I];exact U
theorem IsSx.stored{V:Array Value}(h:IsSx V m n C B bar)(M:w.there b 0 350):SxAt (w.setCells b 0 V.toList) b m n C B bar:=by
 have hl:V.toList.length=350:=by simpa using h.1
 have O:=World.rangeAt_setCells_same w b 0 V.toList (by rw[hl];exact M);have I:∀o,o<350->∀v,V[o]?=some v->(w.setCells b 0 V.toList).cell? (az b o)=some v:=λo _ v hv=>by
  have:=O o v (by simpa using hv);rwa[Nat.zero_add]at this
 have U:=h.2.mle;have hn:=h.2.nle;refine⟨⟨I 0 Oo _ h.2.rows,I 1 Oo _ h.2.cols,λi j hi K=>I _ Oo _ (h.2.num i j hi K),λi j hi K=>I _ Oo _ (h.2.den i j hi K),λi hi=>I _ Oo _ (h.2.bas i hi),λj K=>I _ Oo _ (h.2.bars j K),λo ho=>?_,U,hn⟩,λo ho=>?_⟩;obtain⟨v,h1,h2⟩:=h.2.one o ho;exact⟨v,I o ho v h1,h2⟩;have:=(World.there_setCells M b 0 V.toList o ho).2;rwa[Nat.zero_add]at this
theorem SxAt.setBas(h:SxAt w k m n C B bar)(hi:i<m)(b:Nat):SxAt (w.setCell (az k (322+i)) (ai (b:Nat))) k m n C (λK=>if K=i then b else B K) bar:=by
 have hn:=h.lay.nle;have hm:=h.lay.mle;have I:∀o,o≠322+i->(w.setCell (az k (322+i)) (ai (b:Nat))).cell? (az k o)=w.cell? (az k o):=λo ho=>
  bC _ _ _ _ Nq
 have M:(w.setCell (az k (322+i)) (ai (b:Nat))).cell? (az k (322+i))=some (ai (b:Nat)):=bG _ _ _ (h.lay.bas i hi);refine⟨⟨?_,?_,λK V O U=>?_,λK V O U=>?_,λK O=>?_,λV U=>?_,λo ho=>?_,hm,hn⟩,λo ho=>by rw[fS];exact h.free o ho⟩;show World.cell? _ (az k 0)=_;rw[I 0 Oo];exact h.lay.rows;show World.cell? _ (az k 1)=_;rw[I 1 Oo];exact h.lay.cols;show World.cell? _ (az k (2+K*40+V*2))=_;rw[I _ Oo];exact h.lay.num K V O U;show World.cell? _ (az k (2+K*40+V*2+1))=_;rw[I _ Oo];exact h.lay.den K V O U
 ·show World.cell? _ (az k (322+K))=_;by_cases e:K=i;subst e;rw[M,if_pos rfl];rw[I _ Oo,if_neg e];exact h.lay.bas K O
 show World.cell? _ (az k (330+V))=_;rw[I _ Oo];exact h.lay.bars V U;by_cases e:o=322+i;subst e;exact⟨_,M,rfl⟩;obtain⟨v,h1,h2⟩:=h.lay.one o ho;exact⟨v,(I o e).trans h1,h2⟩
end
theorem yF{N:Nat}{a:World}{b:Nat}(hb:N<=b):∀(vs:List Value) (o:Nat) (w:World),Below N a w->Below N a (w.setCells b o vs)
 |[],_,_,h=>h
 |v::r,o,w,h=>by
  rw[World.setCells];exact yF hb r (o+1) _ (h.setCell hb v)
theorem Zg{P:Program}{fn:Func}{p:Tmp}{ty:TypeId}(h:fn.results=#[.cell p ty])(tmps:Array Value)(w:World)(g:Nat)(cs:List Value)(d:TypeDesc)
 (K:tmps.getD p undef=.pointer (some (az g 0))) (M:w.rangeAt g 0 cs) (O:P.underlying ty=some d) (U:d.isRow=true) (hi:(P.info? ty).map (·.size)=some cs.length):
 (results fn tmps).run P w=.ok (.agg cs.toArray) w:=by
 have I:tmps[p]?.getD undef=.pointer (some (az g 0)):=by simpa using K
 simp[results,h,I,asAddr,run_loadVar_mid w g 0 ty cs d M O U hi]
theorem xU(w:World)(a b:Nat)(v:Int)(hb:b<=20):
 Cl 172 #[ai a,ai b,ai v] w λe w'=>e=.returned (.agg (qM a b v).toArray)/\Bl w w':=by
 go_enter Tryz.func172,Tryz.ntmps172;go_wp2_with (first|(refine jz rfl rfl ?_));have h0:=zG w 20 (λ_=>ai 0) 197;have h1:=zG (w.alloc (.cells (zI 20 (λ_=>ai 0)).toArray 197)) 20 (λ_=>ai 0) 197;have M:((w.alloc (.cells (zI 20 (λ_=>ai 0)).toArray 197)).alloc (.cells (zI 20 (λ_=>ai 0)).toArray 197)).there w.1.size 0 20:=World.there_alloc h0.there _;rw[show(w.alloc (.cells (zI 20 (λ_=>ai 0)).toArray 197)).1.size=w.1.size+1 by simp]at h1;have O:Bl w ((w.alloc (.cells (zI 20 (λ_=>ai 0)).toArray 197)).alloc (.cells (zI 20 (λ_=>ai 0)).toArray 197)):=(aK).alloc Ss _;generalize (w.alloc (.cells (zI 20 (λ_=>ai 0)).toArray 197)).alloc (.cells (zI 20 (λ_=>ai 0)).toArray 197)=W at *;clear h0;go_loopw [8] (λt wr=>∃j:Nat,a<=j/\(j<=b∨j=a)/\t=ai j/\Bl w wr/\wr.there w.1.size 0 20/\ArrAt wr (w.1.size+1) 20 (λi=>ai (xA a j v i))) (λt _=>b-(intOf t).toNat);exact⟨a,nR _,Or.inr rfl,rfl,O,M,⟨λj hj=>(h1.cell j hj).trans (by unfold xA;rw[if_neg Oo]),h1.free⟩⟩;obtain⟨j,hj,a4,rfl,U,V,I⟩:=hrel;clear O M h1;by_cases a5:j<b
 ·have i1:(j:Int)<(b:Int):=Oo;have i2:(j:Int)<20:=Oo;have c1:wr.cell? (az (w.1.size+1) j)=some (ai (xA a j v j)):=I.cell j Oo;have f1:wr.frozen? (az (w.1.size+1) j)=false:=I.free j Oo;go_wp2_with fail;go_roundw
  case rel=>
   refine⟨j+1,Oo,Oo,Gg,U.setCell Ss _,World.there_setCells V (w.1.size+1) j [ai v],⟨λi hi=>((I.set Oo _).cell i hi).trans ?_,(I.set Oo _).free⟩⟩;unfold xA;by_cases e:i=j;rw[if_pos e,if_pos Oo];rw[if_neg e];by_cases e2:a<=i/\i<j;rw[if_pos e2,if_pos Oo];rw[if_neg e2,if_neg Oo]
  case measure=>simp[intOf];omega
 have i1:¬((j:Int)<(b:Int)):=Oo;have K:(zI 20 (λi=>ai (xA a j v i)))=qM a b v:=by
  unfold qM zI;refine List.map_congr_left (λi hi=>?_);unfold xA;by_cases e:a<=i/\i<j;rw[if_pos e,if_pos Oo];rw[if_neg e,if_neg Oo]
 have HR:Hh (wr.rangeAt (w.1.size+1) 0 (qM a b v)):=by rw[<-K];exact I.range
 have hlen:(qM a b v).length=20:=uM _ _;have HT:Hh (wr.there w.1.size 0 (qM a b v).toArray.size):=by
  rw[show(qM a b v).toArray.size=20 by simpa using hlen];exact V
 have HI:Hh ((Tryz.prog.info? 197).map (·.size)=some (qM a b v).length):=by
  show _=_;rw[hlen];exact Xi
 have HJ:Hh ((Tryz.prog.info? 197).map (·.size)=some (qM a b v).toArray.size):=by
  show _=_;rw[show(qM a b v).toArray.size=20 by simpa using hlen];exact Xi
 have HO:Hh ((qM a b v).toArray.all (·.oneCell')=true):=all_oneCell_toArray (λu hu=>by
  obtain⟨i,_,rfl⟩:=List.mem_map.1 hu;rfl)
 clear K;generalize hcz:qM a b v=cz at *;go_wp2_with (first|(refine wpList_load_mid rfl 197 _ rfl (w.1.size+1) 0 Fl cz _ (by exact HR.o) Tryz.underlying197 Fl (by exact HI.o) ?_)|(refine wpList_store_mid rfl 197 _ _ rfl w.1.size 0 cz.toArray Fl Fl (by exact HT.o) (by exact HJ.o) (by exact HO.o) ?_));have a3:(wr.setCells w.1.size 0 cz.toArray.toList).rangeAt w.1.size 0 cz:=by
  have:=World.rangeAt_setCells_same wr w.1.size 0 cz.toArray.toList (by have:=HT.o;simpa using this);simpa using this
 refine bodyPost_ret (v:=.agg cz.toArray) (Zg Tryz.results172 _ _ w.1.size cz _ Fl a3 Tryz.underlying197 Fl HI.o) rfl ⟨rfl,yF (nR _) _ _ _ U⟩
def part(cost:Nat->Int)(C:Nat->Nat->Rat)(B:Nat->Nat)(j i:Nat):Rat:=((cost j:Int):Rat)-Cov.sm i (λi'=>((cost (B i'):Int):Rat)*C i' j)
def yL(cost:Nat->Int)(C:Nat->Nat->Rat)(B:Nat->Nat)(m j:Nat):Nat->Nat->Rat:=λa b=>if a=m/\b<j then part cost C B b m else C a b
theorem qCc{cost:Nat->Int}(h:cost (B i)=0):part cost C B j (i+1)=part cost C B j i:=by
 unfold part;show _-(Cov.sm i _+((cost (B i):Int):Rat)*C i j)=_;rw[h];have:((0:Int):Rat)=0:=rfl;rw[this];grind
theorem qCd{cost:Nat->Int}:part cost C B j (i+1)=part cost C B j i-C i j*((cost (B i):Int):Rat):=by
 unfold part;show _-(Cov.sm i _+((cost (B i):Int):Rat)*C i j)=_;grind
theorem qGO{n:Int}(h:n.natAbs<=1):Sm 1 ((n:Int):Rat):=by
 refine⟨?_,?_⟩;simpa using h;simp
theorem Kb.own(h:Kb k w w'){a:Nat}(K:w.1.size<=a)(o:Nat)(v:Value):Kb k w (w'.setCell (az a o) v):=
 ⟨h.os,h.tape,h.output,by simpa[World.setCell]using h.size,λb hb I=>(bD _ _ _ _ Sy).trans (h.block b hb I)⟩
theorem Kb.step{b:World}(h:Kb k w a)(g:Bl a b):Kb k w b:=h.trans (Kb.of_below g)
structure RatAt(w:World)(p:Nat)(q:Rat):Prop where
 num:w.cell? (az p 0)=some (ai q.num)
 den:w.cell? (az p 1)=some (ai q.den)
 f0:w.frozen? (az p 0)=false
 f1:w.frozen? (az p 1)=false
theorem RatAt.set{p:Nat}{q:Rat}(h:RatAt w p q)(r:Rat):RatAt ((w.setCell (az p 0) (ai r.num)).setCell (az p 1) (ai r.den)) p r:=
 ⟨by rw[bC _ _ _ _ Ss,bG _ _ _ h.num],bG _ _ _ (by rw[bC _ _ _ _ Ss];exact h.den),
  by rw[fS,fS];exact h.f0,by rw[fS,fS];exact h.f1⟩
theorem qAM(w:World)(q:Rat)(t:TypeId):RatAt (w.alloc (.cells #[ai q.num,ai q.den] t)) w.1.size q:=
 ⟨Sg,Sg,Sg,Sg⟩
theorem ArrAt.below{f:Nat->Value}(h:ArrAt w k N f)(I:0<N)(hb:Bl w w'):ArrAt w' k N f:=h.move (hb.block k (h.lt I))
theorem U7(w:World)(c:Int)(t:TypeId):RatAt (w.alloc (.cells #[ai c,ai 1] t)) w.1.size (c:Rat):=qAM w (c:Rat) t
theorem yB(n:Int)(w:World):
 Cl 171 #[ai n] w λe w'=>e=.returned (.agg #[ai n,ai 1])/\Bl w w':=Yk n w
theorem qGP(p:Rat)(c:Int)(w:World){B C:Nat}(I:Sm B p)(hq:Sm C (c:Rat))(h:B*C<=4500000000000000000):
 Cl 235 #[.agg #[ai p.num,ai p.den],.agg #[ai c,ai 1]] w λe w'=>e=.returned (.agg #[ai (p*(c:Rat)).num,ai (p*(c:Rat)).den])/\Bl w w':=qCa p (c:Rat) w I hq h
structure PrC(w wr:World)(k m n:Nat)(C:Nat->Nat->Rat)(B:Nat->Nat)(bar:Nat->Bool)(cost:Nat->Int):Prop where
 kb:Kb k w wr
 sx:SxAt wr k m n C B bar
 ar:ArrAt wr w.1.size 20 (λj=>ai (cost j))
theorem PrC.below{cost:Nat->Int}(h:PrC w wr k m n C B bar cost)(hb:Bl wr w'):PrC w w' k m n C B bar cost:=
 ⟨h.kb.step hb,h.sx.below hb,h.ar.below Oo hb⟩
theorem PrC.alloc{cost:Nat->Int}(h:PrC w wr k m n C B bar cost)(o:Obj):PrC w (wr.alloc o) k m n C B bar cost:=
 h.below (aK)
theorem PrC.own{cost:Nat->Int}(h:PrC w wr k m n C B bar cost){a:Nat}(v:Value)(I:w.1.size<a)(K:k<w.1.size):PrC w (wr.setCell (az a o) v) k m n C B bar cost:=
 ⟨h.kb.own Oo _ _,h.sx.far _ Oo,h.ar.move (bD _ _ _ _ Sy)⟩
theorem qAN(w:World)(k m n:Nat)(C:Nat->Nat->Rat)(B:Nat->Nat)(bar:Nat->Bool)(h:SxAt w k m n C B bar)(cost:Nat->Int)(K:∀j,(cost j).natAbs<=1)(d3:∀i,i<m->B i<n)
 (d4:∀a b,a<=m->b<=n->Sm 41000 (C a b)) (M:∀j i,j<=n->i<=m->Sm 41000 (part cost C B j i)):
 Cl 173 #[.pointer (some (az k 0)),.agg (zI 20 (λj=>ai (cost j))).toArray] w λe w'=>e=.returned (.tuple #[])/\Kb k w w'/\SxAt w' k m n (yL cost C B m (n+1)) B bar:=by
 have hn:=h.lay.nle;have hm:=h.lay.mle;have a6:=h.lt;have S1:=ay d4;have P1:=ay M;have K1:=ay K;have N1:=ay d3;clear d4 M K d3;go_enter Tryz.func173,Tryz.ntmps173;go_upto_region 1 with fail;have O:PrC w (w.alloc (.cells (zI 20 (λj=>ai (cost j))).toArray 197)) k m n C B bar cost:=⟨Kb.of_below (aK),h.alloc _,zG w 20 _ _⟩;generalize w.alloc (.cells (zI 20 (λj=>ai (cost j))).toArray 197)=W at *;have a8:W.cell? (az k 1)=some (ai n):=O.sx.lay.cols;go_wp2_with fail;go_loopw [13] (λt wr=>∃j:Nat,j<=n+1/\t=ai j/\PrC w wr k m n (yL cost C B m j) B bar cost) (λt _=>n+1-(intOf t).toNat);exact⟨0,nZ _,rfl,O.kb,O.sx.congr (λ_ _ _ _=>if_neg Oo) (λ_ _=>rfl) (λ_ _=>rfl),O.ar⟩;obtain⟨j,hj,rfl,hP⟩:=hrel;clear O a8;by_cases f9:j<n+1
 ·have i1:(j:Int)<(n:Int)+1:=Oo;have i2:(j:Int)<20:=Oo;have c1:wr.cell? (az w.1.size j)=some (ai (cost j)):=hP.ar.cell j Oo;go_wp2_with fail;refine(yB (cost j) _).mono ?_;rintro e w1 ⟨rfl,a9⟩;have b0:=(hP.below a9).alloc (.cells #[ai (cost j),ai 1] 158);have d5:=U7 w1 (cost j) 158;have a7:w.1.size<w1.1.size:=bN (hP.ar.lt Oo) a9.size;clear hP c1;go_upto_region 5 with fail;generalize hp:w1.1.size=p at *;generalize w1.alloc (.cells #[ai (cost j),ai 1] 158)=W1 at *;clear hp a9;clear w1;have b7:W1.cell? (az k 0)=some (ai m):=b0.sx.lay.rows;obtain⟨wo,rfl⟩:=Ex (W1:World);go_wp2_with fail;go_loopw [24] (λt wi=>∃i:Nat,i<=m/\t=ai i/\PrC w wi k m n (yL cost C B m j) B bar cost/\RatAt wi p (part cost C B j i)) (λt _=>m-(intOf t).toNat);exact⟨0,nZ _,rfl,b0,by unfold part;rw[show((cost j:Int):Rat)-Cov.sm 0 (λi'=>((cost (B i'):Int):Rat)*C i' j)=((cost j:Int):Rat)by show _-(0:Rat)=_;grind];exact d5⟩;obtain⟨i,hi,rfl,I,a4⟩:=hrel;clear b0 d5 b7;by_cases b8:i<m
  ·have i3:(i:Int)<(m:Int):=Oo;have i4:(i:Int)<8:=Oo;have g4:B i<n:=N1.o i b8;have i5:((B i:Nat):Int)<20:=Oo;have b1:wr.cell? (az k (322+i))=some (ai (B i:Nat)):=I.sx.lay.bas i b8;have b2:wr.cell? (az w.1.size (B i))=some (ai (cost (B i))):=I.ar.cell (B i) Oo;by_cases hz:cost (B i)=0
   ·have d8:(cost (B i) != 0)=false:=by simpa using hz
    have HZ:=ay hz;clear hz;go_wp2_with fail;go_roundw;exact⟨i+1,Oo,Gg,I,by rw[qCc HZ.o];exact a4⟩;exact Im
   have d8:(cost (B i) != 0)=true:=by simpa using hz
   obtain⟨r1,r2,r3,r4⟩:=a4;have a1:wr.cell? (az k (2+i*40+j*2))=some (ai (yL cost C B m j i j).num):=I.sx.lay.num i j Oo Oo;have a2:wr.cell? (az k (2+i*40+j*2+1))=some (ai (yL cost C B m j i j).den):=I.sx.lay.den i j Oo Oo;rw[show yL cost C B m j i j=C i j from if_neg Oo]at a1 a2;have X1:=ay (S1.o i j Oo Oo);have X2:=ay (qGO (K1.o (B i)));have X3:=ay (X1.o.mul X2.o);have X4:=ay (P1.o j i Oo Oo);have d6:k<wr.1.size:=I.sx.lt;have U:p<wr.1.size:=bL wr _ r1;clear hz b1 b2;have b1:wr.cell? (az k (322+i))=some (ai (B i:Nat)):=I.sx.lay.bas i b8;have b2:wr.cell? (az w.1.size (B i))=some (ai (cost (B i))):=I.ar.cell (B i) Oo;go_upto_region 10 with fail;clear b1 b2;go_region_with (first|(go_at_call 171;refine(yB (cost (B i)) _).mono ?_;rintro e wA ⟨rfl,b9⟩;obtain⟨V,c7⟩:=xO b9;have a3:p<wA.1.size:=bN U b9.size;have g5:wA.cell? (az k (2+i*40+j*2))=some (ai (C i j).num):=(V k _ d6).trans a1;have g6:wA.cell? (az k (2+i*40+j*2+1))=some (ai (C i j).den):=(V k _ d6).trans a2;have d9:wA.cell? (az p 0)=some (ai (part cost C B j i).num):=(V p 0 U).trans r1;have e0:wA.cell? (az p 1)=some (ai (part cost C B j i).den):=(V p 1 U).trans r2;have e1:wA.frozen? (az p 0)=false:=(c7 p 0 U).trans r3;have e3:wA.frozen? (az p 1)=false:=(c7 p 1 U).trans r4;clear V c7)|(go_at_call 235;refine(qGP (C i j) (cost (B i)) _ X1.o X2.o Dd).mono ?_;rintro e wB ⟨rfl,c8⟩;obtain⟨c9,d0⟩:=xO c8;have a5:p<wB.1.size:=bN a3 c8.size;have e4:wB.cell? (az p 0)=some (ai (part cost C B j i).num):=(c9 p 0 a3).trans d9;have e5:wB.cell? (az p 1)=some (ai (part cost C B j i).den):=(c9 p 1 a3).trans e0;have e6:wB.frozen? (az p 0)=false:=(d0 p 0 a3).trans e1;have e7:wB.frozen? (az p 1)=false:=(d0 p 1 a3).trans e3;clear c9 d0)|(go_at_call 150;refine(Xn (part cost C B j i) (C i j*((cost (B i):Int):Rat)) _ X4.o X3.o Dd).mono ?_;rintro e wC ⟨rfl,d7⟩;obtain⟨d1,d2⟩:=xO d7;have q0:wC.cell? (az p 0)=some (ai (part cost C B j i).num):=(d1 p 0 a5).trans e4;have q1:wC.cell? (az p 1)=some (ai (part cost C B j i).den):=(d1 p 1 a5).trans e5;have q2:wC.frozen? (az p 0)=false:=(d2 p 0 a5).trans e6;have q3:wC.frozen? (az p 1)=false:=(d2 p 1 a5).trans e7;clear d1 d2))
   all_goals
    have e8:Bl wr wC:=bt (bt ((bJ _ _).drew.trans b9) c8) d7
    have e9:=((I.below e8).own (a:=p) (o:=0) (ai (part cost C B j i-C i j*((cost (B i):Int):Rat)).num) a7 a6).own (a:=p) (o:=1) (ai (part cost C B j i-C i j*((cost (B i):Int):Rat)).den) a7 a6
    have f7:=(RatAt.mk q0 q1 q2 q3).set (part cost C B j i-C i j*((cost (B i):Int):Rat))
    go_wp2_with fail
    go_roundw;exact⟨i+1,Oo,Gg,e9,by rw[qCd];exact f7⟩;exact Im
  obtain rfl:i=m:=Oo;have i3:¬((i:Int)<(i:Int)):=Oo;have f8:wr.cell? (az k 0)=some (ai i):=I.sx.lay.rows;have a1:wr.cell? (az k (2+i*40+j*2))=some (ai (yL cost C B i j i j).num):=I.sx.lay.num i j Oo Oo;have a2:wr.cell? (az k (2+i*40+j*2+1))=some (ai (yL cost C B i j i j).den):=I.sx.lay.den i j Oo Oo;have g1:wr.frozen? (az k (2+i*40+j*2))=false:=I.sx.free _ Oo;have g2:wr.frozen? (az k (2+i*40+j*2+1))=false:=I.sx.free _ Oo;have i6:(i:Int)<8:=Oo;have r1:=a4.num;have r2:=a4.den;go_upto_region 12 with fail;go_region
  go_wp2_with fail;go_roundw
  case rel=>
   refine⟨j+1,Oo,Gg,?_,?_,?_⟩;exact((I.kb.set _ _).set _ _).drew
   ·refine((I.sx.setNum (nR _) (show j<=n by omega) (part cost C B j i)).congr (λa b _ _=>?_) (λ_ _=>rfl) (λ_ _=>rfl)).drew;unfold yL;by_cases e:a=i/\b=j;rw[if_pos e,if_pos Oo,e.2];rw[if_neg e];by_cases e2:a=i/\b<j;rw[if_pos e2,if_pos Oo];rw[if_neg e2,if_neg Oo]
   exact I.ar.move (by show((wr.setCell _ _).setCell _ _).1[w.1.size]?=_;rw[bD _ _ _ _ Sy,bD _ _ _ _ Sy])
  case measure=>simp[intOf];omega
 obtain rfl:j=n+1:=Oo;have i1:¬((n:Int)+1<(n:Int)+1):=Oo;go_wp2;go_end0
 exact⟨rfl,hP.kb,hP.sx⟩
end Go.Proofs.YtcnfapnfmnolbaaGreat
