import Derived.Deep.Cut
import Derived.Laws.OwnMore
import Derived.Test.YtcnfapnfmnolbaaGreatRq06
set_option maxHeartbeats 40000000
set_option maxRecDepth 1000000
namespace Go.Proofs.YtcnfapnfmnolbaaGreat
open Go.RowKit
variable {l:List (Int×Int)}{g j lo n:Nat}{v0 v1 v2 v3:Value}{W W' w w':World}
structure HalfP(W:World)(g n j:Nat)(R:Nat->Value->Value->Prop):Prop where
 any:∀q,q<n*2->∃u,W.cell? (az g q)=some u
 free:∀q,q<n*2->W.frozen? (az g q)=false
 pair:∀i,i<j->∃u0 u1,W.cell? (az g (i*2))=some u0/\W.cell? (az g (i*2+1))=some u1/\R i u0 u1
theorem HalfP.below{R R':Nat->Value->Value->Prop}(h:HalfP W g n j R)(I:g<W.1.size)(hb:Bl W W')(K:∀i u0 u1,i<j->R i u0 u1->R' i u0 u1):HalfP W' g n j R':=
 ⟨λq hq=>by obtain⟨u,M⟩:=h.any q hq;exact⟨u,(hb.cell (p:=(az g q)) I).trans M⟩,λq hq=>(hb.frozen (p:=(az g q)) I).trans (h.free q hq),λi hi=>by
  obtain⟨u0,u1,O,U,V⟩:=h.pair i hi;exact⟨u0,u1,(hb.cell (p:=(az g (i*2))) I).trans O,(hb.cell (p:=(az g (i*2+1))) I).trans U,K i u0 u1 hi V⟩⟩
theorem qAB{q I:Nat}{v:Value}(h:∃u,W.cell? (az g q)=some u):∃u,(W.setCell (az g I) v).cell? (az g q)=some u:=by
 obtain⟨u,K⟩:=h;by_cases e:q=I;subst e;exact⟨v,bG _ _ _ K⟩;exact⟨u,(bC _ _ _ _ (by intro M;simp only[Addr.mk.injEq]at M;omega)).trans K⟩
theorem HalfP.step{R R':Nat->Value->Value->Prop}{u0 u1:Value}(h:HalfP W g n j R)(hj:j<n)(I:∀i a b,i<j->R i a b->R' i a b)(K:R' j u0 u1):
 HalfP ((W.setCell (az g (j*2)) u0).setCell (az g (j*2+1)) u1) g n (j+1) R' where
 any q hq:=qAB (qAB (h.any q hq))
 free q hq:=by rw[fS,fS];exact h.free q hq
 pair i hi:=by
  have ne:∀(X:World) (a b:Nat) (v:Value),a≠b->(X.setCell (az g b) v).cell? (az g a)=X.cell? (az g a):=λX a b v M=>bC _ _ _ _ (by intro O;simp only[Addr.mk.injEq]at O;omega);by_cases e:i=j
  ·subst e;obtain⟨x0,c0⟩:=h.any (i*2) Oo;obtain⟨x1,c1⟩:=h.any (i*2+1) Oo;refine⟨u0,u1,?_,?_,K⟩;rw[ne _ _ _ _ Oo];exact bG _ _ _ c0;exact bG _ _ _ ((ne _ _ _ _ Oo).trans c1)
  obtain⟨a,b,U,V,h2⟩:=h.pair i Oo;exact⟨a,b,by rw[ne _ _ _ _ Oo,ne _ _ _ _ Oo];exact U,by rw[ne _ _ _ _ Oo,ne _ _ _ _ Oo];exact V,I i a b Oo h2⟩
structure IPl(w:World)(v0 v1 v2 v3:Value)(bs:LL)(ps hs:LI)(ws:List (Int×Int)):Prop where
 b:ISS w v0 bs
 p:IS w v1 ps
 h:IS w v2 hs
 d:IR w v3 ws
theorem IPl.below{bs:LL}{ps hs:LI}{ws:List (Int×Int)}(h:IPl w v0 v1 v2 v3 bs ps hs ws)(hb:Bl w w'):IPl w' v0 v1 v2 v3 bs ps hs ws:=
 ⟨h.b.below hb,h.p.below hb,h.h.below hb,h.d.below hb⟩
def IRb(w:World)(g:Nat)(l:List (Int×Int)):Prop:=(∀j,j<l.length->w.cell? (az g (j*2))=some (ai (l.getD j (0,0)).1)/\w.cell? (az g (j*2+1))=some (ai (l.getD j (0,0)).2))/\∀q,q<l.length*2->w.frozen? (az g q)=false
theorem IRb.move(h:IRb w g l)(hb:w'.1[g]?=w.1[g]?):IRb w' g l:=
 ⟨λj I=>⟨(bF (w:=w) (a:=(az g (j*2))) hb).trans (h.1 j I).1,(bF (w:=w) (a:=(az g (j*2+1))) hb).trans (h.1 j I).2⟩,λq hq=>by have:=h.2 q hq;unfold World.frozen? at this ⊢;rw[hb];exact this⟩
theorem IRb.ir(h:IRb w g l):IR w (.slice (some (az g 0)) l.length l.length) l:=
 ⟨_,_,rfl,Or.inr ⟨g,0,rfl,λj I=>by rw[Nat.zero_add];exact h.1 j I⟩⟩
theorem IRb.sh(h:IRb w g l)(K:lo<=g)(I:g<w.1.size):ShI lo w.1.size w g (l.length*2):=⟨K,I,I,λj M=>by
 rcases Nat.mod_two_eq_zero_or_one j with e|e;have:=(h.1 (j / 2) Oo).1;rw[show j / 2*2=j by omega]at this;exact⟨_,this⟩;have:=(h.1 (j / 2) Oo).2;rw[show j / 2*2+1=j by omega]at this;exact⟨_,this⟩,h.2⟩
theorem Half.shss{ls:LL}{f:Nat->Nat}(h:Half w g ls.length ls.length ls f)(K:lo<=g):ShSS lo w.1.size w g ls.length (λj=>(ls.getD j []).length):=λj I=>by
 have e:=h.cell j I;rw[if_pos I]at e;have M:=h.gt j I;exact⟨f j,e,(h.own j I).sh Oo (h.own j I).lt⟩
theorem OwnI.shE{l:LI}(h:OwnI W g l)(I:lo<=g):ShI lo W.1.size W g l.length:=h.sh I h.lt
theorem Jy(w:World)(v:Value)(l:List (Int×Int))(h:IR w v l)(hl:l.length<=1048576):
 Cl 27 #[v] w λe w'=>e=.returned (.slice (some (az w.1.size 0)) l.length l.length)/\IRb w' w.1.size l/\w.1.size<w'.1.size/\Bl w w':=by
 obtain⟨i0,hi,b7,b8,b9⟩:=info_parts Tryz.infoRatS;obtain⟨a,cap,rfl,hc⟩:=h;obtain⟨n,hn⟩:=Ex l.length;have HC:=ay hc;have HN:=ay hn;rw[<-hn]at HC hl ⊢;clear hc hn;go_enter Tryz.func27,Tryz.ntmps27;go_wp2_with (at_make;refine wpList_make_full _ rfl _ _ 35 rfl w.1.size 36 i0 (.agg #[ai 0,ai 0]) 2 Tryz.underlying35 hi b7 b8 _ _ _ _ n rfl rfl rfl rfl ?b2 ?b3 (nR _) ?_)
 case b2=>rw[b9];omega
 case b3=>unfold maxLen;omega
 intro w0 I M;have a7:Bl w w0:=(bJ _ _).grown M (nR _) (λj hj=>by cases hj);have a3:w.1.size<w0.1.size:=(I.lt _ rfl).2;have a8:HalfP w0 w.1.size n 0 (λi a b=>a=ai (l.getD i (0,0)).1/\b=ai (l.getD i (0,0)).2):=⟨λq hq=>by
  rw[I.cellAt q hq];exact⟨_,gE (by rw[I.1];exact hq)⟩,λq _=>I.frozenAt q,λi hi=>Oo⟩
 have a9:=ay (And.intro a7 (And.intro a3 a8));clear I M a7 a3 a8;go_wp2;go_loopw [4] (λt wr=>∃j:Nat,j<=n/\t=ai j/\Hh (Bl w wr/\w.1.size<wr.1.size/\HalfP wr w.1.size n j (λi a b=>a=ai (l.getD i (0,0)).1/\b=ai (l.getD i (0,0)).2))) (λt _=>n-(intOf t).toNat);exact⟨0,nZ _,rfl,a9⟩;clear a9;obtain⟨j,hj,rfl,hH⟩:=hrel;obtain⟨O,a4,U⟩:=hH.o;by_cases b0:j<n
 ·have i1:(j:Int)<(n:Int):=Oo;rcases HC.o with h0|⟨b,o,rfl,hrel⟩;omega;obtain⟨a5,a6⟩:=hrel j b0;have c0:=(O.cell (p:=(az b (o+j*2))) (bL w _ a5)).trans a5;have c1:=(O.cell (p:=(az b (o+j*2+1))) (bL w _ a6)).trans a6;have c7:=ay O;have b1:=ay U;have V:Hh (∀W,Bl wr W->HalfP ((W.setCell (az w.1.size (j*2)) (ai (l.getD j (0,0)).1)).setCell (az w.1.size (j*2+1)) (ai (l.getD j (0,0)).2)) w.1.size n (j+1) (λi a b=>a=ai (l.getD i (0,0)).1/\b=ai (l.getD i (0,0)).2)):=ay (λW hb=>
   (b1.o.below a4 hb (λ_ _ _ _ h=>h)).step b0 (λ_ _ _ _ h=>h) ⟨rfl,rfl⟩)
  clear hH O U hrel a5 a6;obtain⟨s,hs⟩:=Ex ((l.getD j (0,0)).1);obtain⟨d,hd⟩:=Ex ((l.getD j (0,0)).2);rw[<-hs]at c0 V;rw[<-hd]at c1 V;clear hs hd;go_wp2_with fail;refine(Zz s d wr).mono ?_;rintro e w2 ⟨rfl,hb⟩;have K:=b1.o.below a4 hb (λ_ _ _ _ h=>h);obtain⟨u0,d0⟩:=K.any (j*2) Oo;obtain⟨u1,d1⟩:=K.any (j*2+1) Oo;have f0:=K.free (j*2) Oo;have f1:=K.free (j*2+1) Oo;have HF:=ay (V.o w2 hb);have c8:=ay (bt c7.o hb);have c9:=hb.size;clear K hb V c0 c1;go_wp2;go_roundw;exact⟨j+1,Oo,Gg,ay ⟨(c8.o.setCell (nR _) _).setCell (nR _) _,by simp[World.setCell];omega,HF.o⟩⟩;exact Im
 obtain rfl:j=n:=Oo;have i1:¬((j:Int)<(j:Int)):=Oo;have HX:=ay (And.intro U (And.intro a4 O));clear hH O U;go_wp2;go_ret;refine⟨rfl,⟨λi hi=>?_,λq hq=>HX.o.1.free q (by rw[HN.o];exact hq)⟩,HX.o.2.1,HX.o.2.2⟩;obtain⟨u0,u1,h0,h1,rfl,rfl⟩:=HX.o.1.pair i (by rw[HN.o];exact hi);exact⟨h0,h1⟩
theorem Jz(w:World)(a:Option Addr)(n cap:Nat)(left:Int)(K:0<=left)(M:left<=1048576)(O:n<=9223372036854775807):
 Cl 18 #[.slice a n cap,ai left] w λe w'=>e=.returned (ai (if left<n then -1 else left-n))/\w'=w:=by
 by_cases h:left<n
 ·rw[if_pos h];have I:left-(n:Int)<0:=Oo;go_enter Tryz.func18,Tryz.ntmps18;go_wp2;go_ret;exact⟨rfl,rfl⟩
 rw[if_neg h];have I:¬(left-(n:Int)<0):=Oo;go_enter Tryz.func18,Tryz.ntmps18;go_wp2;go_ret;exact⟨rfl,rfl⟩
structure B6(s:Nat)(v0 v1 v2 v3 v4 v5:Value)(W:World):Prop where
 c0:W.cell? (az s 0)=some v0
 c1:W.cell? (az s 1)=some v1
 c2:W.cell? (az s 2)=some v2
 c3:W.cell? (az s 3)=some v3
 c4:W.cell? (az s 4)=some v4
 c5:W.cell? (az s 5)=some v5
theorem B6.step{s:Nat}{v4 v5:Value}(h:B6 s v0 v1 v2 v3 v4 v5 W)(hb:Bl W W'):B6 s v0 v1 v2 v3 v4 v5 W':=
 ⟨qJ hb h.c0,qJ hb h.c1,qJ hb h.c2,qJ hb h.c3,qJ hb h.c4,qJ hb h.c5⟩
theorem B6.start(w:World)(v0 v1 v2 v3 v4 v5:Value)(t:TypeId):B6 w.1.size v0 v1 v2 v3 v4 v5 (w.alloc (.cells #[v0,v1,v2,v3,v4,v5] t)):=
 ⟨by rw[bE _ _ _ _ rfl];rfl,by rw[bE _ _ _ _ rfl];rfl,by rw[bE _ _ _ _ rfl];rfl,by rw[bE _ _ _ _ rfl];rfl,by rw[bE _ _ _ _ rfl];rfl,by rw[bE _ _ _ _ rfl];rfl⟩
theorem J0(w:World)(v v':Value)(ls:LL)(h:ISS w v ls)(I:ISS w v' ls)(hl:qT ls):
 Cl 34 #[v,v'] w λe w'=>e=.returned (.bool true)/\Bl w w':=
 (QN w v v' ls h I hl).mono (by
  rintro e w' ⟨rfl,m,rfl⟩;exact⟨rfl,below_drewN (bJ _ _) _⟩)
structure W6(s:Nat)(v0 v1 v2 v3 v4 v5:Value)(W:World):Prop extends B6 s v0 v1 v2 v3 v4 v5 W where
 f0:W.frozen? (az s 0)=false
 f1:W.frozen? (az s 1)=false
 f2:W.frozen? (az s 2)=false
 f3:W.frozen? (az s 3)=false
 f4:W.frozen? (az s 4)=false
 f5:W.frozen? (az s 5)=false
section
variable {s:Nat} {v0 v1 v2 v3 v4 v5:Value} {W W':World}
theorem W6.move(h:W6 s v0 v1 v2 v3 v4 v5 W)(hb:W'.1[s]?=W.1[s]?):W6 s v0 v1 v2 v3 v4 v5 W' where
 c0:=(bF (w:=W) (a:=(az s 0)) hb).trans h.c0
 c1:=(bF (w:=W) (a:=(az s 1)) hb).trans h.c1
 c2:=(bF (w:=W) (a:=(az s 2)) hb).trans h.c2
 c3:=(bF (w:=W) (a:=(az s 3)) hb).trans h.c3
 c4:=(bF (w:=W) (a:=(az s 4)) hb).trans h.c4
 c5:=(bF (w:=W) (a:=(az s 5)) hb).trans h.c5
 f0:=(World.frozen?_of_block (w:=W) (a:=(az s 0)) hb).trans h.f0
 f1:=(World.frozen?_of_block (w:=W) (a:=(az s 1)) hb).trans h.f1
 f2:=(World.frozen?_of_block (w:=W) (a:=(az s 2)) hb).trans h.f2
 f3:=(World.frozen?_of_block (w:=W) (a:=(az s 3)) hb).trans h.f3
 f4:=(World.frozen?_of_block (w:=W) (a:=(az s 4)) hb).trans h.f4
 f5:=(World.frozen?_of_block (w:=W) (a:=(az s 5)) hb).trans h.f5
theorem W6.lt(h:W6 s v0 v1 v2 v3 v4 v5 W):s<W.1.size:=bL W _ h.c0
theorem W6.below(h:W6 s v0 v1 v2 v3 v4 v5 W)(hb:Bl W W'):W6 s v0 v1 v2 v3 v4 v5 W':=h.move (hb.block _ h.lt)
theorem W6.new(w:World)(v0 v1 v2 v3 v4 v5:Value)(t:TypeId):W6 w.1.size v0 v1 v2 v3 v4 v5 (w.alloc (.cells #[v0,v1,v2,v3,v4,v5] t)):=
 { B6.start w v0 v1 v2 v3 v4 v5 t with f0:=World.frozen?_alloc_at _ _ _ _ rfl,f1:=World.frozen?_alloc_at _ _ _ _ rfl,f2:=World.frozen?_alloc_at _ _ _ _ rfl,f3:=World.frozen?_alloc_at _ _ _ _ rfl,f4:=World.frozen?_alloc_at _ _ _ _ rfl,f5:=World.frozen?_alloc_at _ _ _ _ rfl }
theorem W6.set0(h:W6 s v0 v1 v2 v3 v4 v5 W)(u:Value):W6 s u v1 v2 v3 v4 v5 (W.setCell (az s 0) u) where
 c0:=bG _ _ _ h.c0
 c1:=(bC _ _ _ _ Ss).trans h.c1
 c2:=(bC _ _ _ _ Ss).trans h.c2
 c3:=(bC _ _ _ _ Ss).trans h.c3
 c4:=(bC _ _ _ _ Ss).trans h.c4
 c5:=(bC _ _ _ _ Ss).trans h.c5
 f0:=(fS _ _ _ _).trans h.f0
 f1:=(fS _ _ _ _).trans h.f1
 f2:=(fS _ _ _ _).trans h.f2
 f3:=(fS _ _ _ _).trans h.f3
 f4:=(fS _ _ _ _).trans h.f4
 f5:=(fS _ _ _ _).trans h.f5
theorem W6.set1(h:W6 s v0 v1 v2 v3 v4 v5 W)(u:Value):W6 s v0 u v2 v3 v4 v5 (W.setCell (az s 1) u) where
 c0:=(bC _ _ _ _ Ss).trans h.c0
 c1:=bG _ _ _ h.c1
 c2:=(bC _ _ _ _ Ss).trans h.c2
 c3:=(bC _ _ _ _ Ss).trans h.c3
 c4:=(bC _ _ _ _ Ss).trans h.c4
 c5:=(bC _ _ _ _ Ss).trans h.c5
 f0:=(fS _ _ _ _).trans h.f0
 f1:=(fS _ _ _ _).trans h.f1
 f2:=(fS _ _ _ _).trans h.f2
 f3:=(fS _ _ _ _).trans h.f3
 f4:=(fS _ _ _ _).trans h.f4
 f5:=(fS _ _ _ _).trans h.f5
theorem W6.set2(h:W6 s v0 v1 v2 v3 v4 v5 W)(u:Value):W6 s v0 v1 u v3 v4 v5 (W.setCell (az s 2) u) where
 c0:=(bC _ _ _ _ Ss).trans h.c0
 c1:=(bC _ _ _ _ Ss).trans h.c1
 c2:=bG _ _ _ h.c2
 c3:=(bC _ _ _ _ Ss).trans h.c3
 c4:=(bC _ _ _ _ Ss).trans h.c4
 c5:=(bC _ _ _ _ Ss).trans h.c5
 f0:=(fS _ _ _ _).trans h.f0
 f1:=(fS _ _ _ _).trans h.f1
 f2:=(fS _ _ _ _).trans h.f2
 f3:=(fS _ _ _ _).trans h.f3
 f4:=(fS _ _ _ _).trans h.f4
 f5:=(fS _ _ _ _).trans h.f5
theorem W6.set3(h:W6 s v0 v1 v2 v3 v4 v5 W)(u:Value):W6 s v0 v1 v2 u v4 v5 (W.setCell (az s 3) u) where
 c0:=(bC _ _ _ _ Ss).trans h.c0
 c1:=(bC _ _ _ _ Ss).trans h.c1
 c2:=(bC _ _ _ _ Ss).trans h.c2
 c3:=bG _ _ _ h.c3
 c4:=(bC _ _ _ _ Ss).trans h.c4
 c5:=(bC _ _ _ _ Ss).trans h.c5
 f0:=(fS _ _ _ _).trans h.f0
 f1:=(fS _ _ _ _).trans h.f1
 f2:=(fS _ _ _ _).trans h.f2
 f3:=(fS _ _ _ _).trans h.f3
 f4:=(fS _ _ _ _).trans h.f4
 f5:=(fS _ _ _ _).trans h.f5
theorem W6.set4(h:W6 s v0 v1 v2 v3 v4 v5 W)(u:Value):W6 s v0 v1 v2 v3 u v5 (W.setCell (az s 4) u) where
 c0:=(bC _ _ _ _ Ss).trans h.c0
 c1:=(bC _ _ _ _ Ss).trans h.c1
 c2:=(bC _ _ _ _ Ss).trans h.c2
 c3:=(bC _ _ _ _ Ss).trans h.c3
 c4:=bG _ _ _ h.c4
 c5:=(bC _ _ _ _ Ss).trans h.c5
 f0:=(fS _ _ _ _).trans h.f0
 f1:=(fS _ _ _ _).trans h.f1
 f2:=(fS _ _ _ _).trans h.f2
 f3:=(fS _ _ _ _).trans h.f3
 f4:=(fS _ _ _ _).trans h.f4
 f5:=(fS _ _ _ _).trans h.f5
theorem W6.set5(h:W6 s v0 v1 v2 v3 v4 v5 W)(u:Value):W6 s v0 v1 v2 v3 v4 u (W.setCell (az s 5) u) where
 c0:=(bC _ _ _ _ Ss).trans h.c0
 c1:=(bC _ _ _ _ Ss).trans h.c1
 c2:=(bC _ _ _ _ Ss).trans h.c2
 c3:=(bC _ _ _ _ Ss).trans h.c3
 c4:=(bC _ _ _ _ Ss).trans h.c4
 c5:=bG _ _ _ h.c5
 f0:=(fS _ _ _ _).trans h.f0
 f1:=(fS _ _ _ _).trans h.f1
 f2:=(fS _ _ _ _).trans h.f2
 f3:=(fS _ _ _ _).trans h.f3
 f4:=(fS _ _ _ _).trans h.f4
 f5:=(fS _ _ _ _).trans h.f5
theorem W6.far{c o:Nat}{u:Value}(h:W6 s v0 v1 v2 v3 v4 v5 W)(I:s≠c):W6 s v0 v1 v2 v3 v4 v5 (W.setCell (az c o) u):=h.move (bD _ _ _ _ I)
end
def szP(bs:LL)(ps hs:LI)(ws:List (Int×Int))(left:Int):Int:=if left<tot bs bs.length+ps.length+hs.length+ws.length then -1 else left-(tot bs bs.length+ps.length+hs.length+ws.length)
theorem J1(w:World)(v0 v1 v2 v3:Value)(x y:Int)(bs:LL)(ps hs:LI)(ws:List (Int×Int))(left:Int)(h:IPl w v0 v1 v2 v3 bs ps hs ws)(hf:Fits bs)(hp:ps.length<=9223372036854775807)(hh:hs.length<=9223372036854775807)(hw:ws.length<=9223372036854775807)(h1:0<=left)(h2:left<=1048576):
 Cl 5 #[.agg #[v0,v1,v2,v3,ai x,ai y],ai left] w λe w'=>e=.returned (ai (szP bs ps hs ws left))/\Bl w w':=by
 have I:Hh (Bl w (w.alloc (.cells #[v0,v1,v2,v3,ai x,ai y] 29))):=ay (aK);have U:=ay (B6.start w v0 v1 v2 v3 (ai x) (ai y) 29);have HI:=ay h;have HF:=ay hf;obtain⟨a0,k0,rfl,-⟩:=h.b;obtain⟨a1,k1,rfl,-⟩:=h.p;obtain⟨a2,k2,rfl,-⟩:=h.h;obtain⟨a3,k3,rfl,-⟩:=h.d;obtain⟨res,K⟩:=Ex (szP bs ps hs ws left);rw[<-K];have HR:Hh (res=if left<tot bs bs.length+ps.length+hs.length+ws.length then -1 else left-(tot bs bs.length+ps.length+hs.length+ws.length)):=ay K;clear h hf K;have b7:(0:Int)<=tot bs bs.length:=Oo;obtain⟨W,hW⟩:=Ex (w.alloc (.cells #[.slice a0 bs.length k0,.slice a1 ps.length k1,.slice a2 hs.length k2,.slice a3 ws.length k3,ai x,ai y] 29));rw[<-hW]at I U;have K0:=ay (QL W _ bs left (HI.o.b.below I.o) HF.o h1 h2);have x0:=U.o.c0;go_enter Tryz.func5,Tryz.ntmps5;go_upto_region 1 with fail;rw[<-hW];clear hW;go_wp2_with fail;refine K0.o.mono ?_;rintro e w1 ⟨rfl,b8⟩;subst w1;have M:Hh (Bl W W):=ay (bJ _ _);have V:=ay U.o;rw[show JP bs left=(if left<tot bs bs.length then -1 else left-tot bs bs.length) from rfl];clear K0 x0;by_cases c1:left<tot bs bs.length
 ·obtain rfl:res=-1:=by rw[HR.o,if_pos Oo]
  rw[if_pos c1];go_wp2_with fail;go_ret;exact⟨rfl,bt I.o M.o⟩
 rw[if_neg c1];obtain⟨l1,a4⟩:=Ex (left-tot bs bs.length);rw[<-a4];have g1:¬(l1<0):=Oo;have u1:l1<=1048576:=Oo;have O:=ay a4;clear a4;have x1:=V.o.c1;have K1:=ay (yN W a1 ps.length k1 l1 Oo Oo hp);go_wp2_with fail;refine K1.o.mono ?_;rintro e w2 ⟨rfl,a9⟩;subst w2;by_cases c2:l1<ps.length
 ·obtain rfl:res=-1:=by have e1:=O.o;rw[HR.o,if_pos Oo]
  rw[if_pos c2];go_wp2_with fail;go_ret;exact⟨rfl,bt I.o M.o⟩
 rw[if_neg c2];obtain⟨l2,a5⟩:=Ex (l1-(ps.length:Int));rw[<-a5];have g2:¬(l2<0):=Oo;have u2:l2<=1048576:=Oo;have a6:=ay a5;clear a5;have x2:=V.o.c2;have K2:=ay (yN W a2 hs.length k2 l2 Oo Oo hh);go_wp2_with fail;refine K2.o.mono ?_;rintro e w2 ⟨rfl,a9⟩;subst w2;by_cases c3:l2<hs.length
 ·obtain rfl:res=-1:=by have e1:=O.o;have e2:=a6.o;rw[HR.o,if_pos Oo]
  rw[if_pos c3];go_wp2_with fail;go_ret;exact⟨rfl,bt I.o M.o⟩
 rw[if_neg c3];obtain⟨l3,a7⟩:=Ex (l2-(hs.length:Int));rw[<-a7];have g3:¬(l3<0):=Oo;have u3:l3<=1048576:=Oo;have b0:=ay a7;clear a7;have x3:=V.o.c3;have K3:=ay (Jz W a3 ws.length k3 l3 Oo Oo hw);go_wp2_with fail;refine K3.o.mono ?_;rintro e w2 ⟨rfl,a9⟩;subst w2;by_cases c4:l3<ws.length
 ·obtain rfl:res=-1:=by have e1:=O.o;have e2:=a6.o;have e3:=b0.o;rw[HR.o,if_pos Oo]
  rw[if_pos c4];go_wp2_with fail;go_ret;exact⟨rfl,bt I.o M.o⟩
 rw[if_neg c4];obtain⟨l4,a8⟩:=Ex (l3-(ws.length:Int));rw[<-a8];have g4:¬(l4<0):=Oo;have u4:l4<=1048576:=Oo;have b1:=ay a8;clear a8;obtain rfl:l4=res:=by have e1:=O.o;have e2:=a6.o;have e3:=b0.o;have e4:=b1.o;rw[HR.o,if_neg Oo];omega
 go_wp2_with fail;go_ret;exact⟨rfl,bt I.o M.o⟩
theorem qAc(w:World)(v0 v1 v2 v3 u0 u1 u2 u3:Value)(x y:Int)(bs:LL)(ps hs:LI)(ws:List (Int×Int))(h:IPl w v0 v1 v2 v3 bs ps hs ws)(h':IPl w u0 u1 u2 u3 bs ps hs ws)(hb:qT bs)(hp:ps.length<=1099511627776)(hh:hs.length<=1099511627776)(hw:ws.length<=1099511627776):
 Cl 11 #[.agg #[v0,v1,v2,v3,ai x,ai y],.agg #[u0,u1,u2,u3,ai x,ai y]] w λe w'=>e=.returned (.bool true)/\Bl w w':=by
 have a9:Bl w (w.alloc (.cells #[v0,v1,v2,v3,ai x,ai y] 38)):=(bJ _ _).alloc (nR _) _;have HI:=ay h;have HJ:=ay h';have HS:=ay hb;obtain⟨a0,k0,rfl,-⟩:=h.b;obtain⟨a1,k1,rfl,-⟩:=h.p;obtain⟨a2,k2,rfl,-⟩:=h.h;obtain⟨a3,k3,rfl,-⟩:=h.d;obtain⟨d0,m0,rfl,-⟩:=h'.b;obtain⟨d1,m1,rfl,-⟩:=h'.p;obtain⟨d2,m2,rfl,-⟩:=h'.h;obtain⟨d3,m3,rfl,-⟩:=h'.d;have b0:=B6.start w (.slice a0 bs.length k0) (.slice a1 ps.length k1) (.slice a2 hs.length k2) (.slice a3 ws.length k3) (ai x) (ai y) 38;obtain⟨W1,a6⟩:=Ex (w.alloc (.cells #[.slice a0 bs.length k0,.slice a1 ps.length k1,.slice a2 hs.length k2,.slice a3 ws.length k3,ai x,ai y] 38));have s1:W1.1.size=w.1.size+1:=by rw[a6];simp
 have a7:=B6.start W1 (.slice d0 bs.length m0) (.slice d1 ps.length m1) (.slice d2 hs.length m2) (.slice d3 ws.length m3) (ai x) (ai y) 38;have a8:Bl W1 (W1.alloc (.cells #[.slice d0 bs.length m0,.slice d1 ps.length m1,.slice d2 hs.length m2,.slice d3 ws.length m3,ai x,ai y] 38)):=(bJ _ _).alloc (nR _) _;rw[<-a6]at b0 a9;obtain⟨W2,b1⟩:=Ex (W1.alloc (.cells #[.slice d0 bs.length m0,.slice d1 ps.length m1,.slice d2 hs.length m2,.slice d3 ws.length m3,ai x,ai y] 38));rw[<-b1]at a7 a8;rw[s1]at a7;have K:=ay (bt a9 a8);have M:=ay (b0.step a8);have O:=ay a7;have HW:Hh (W2=(w.alloc (.cells #[.slice a0 bs.length k0,.slice a1 ps.length k1,.slice a2 hs.length k2,.slice a3 ws.length k3,ai x,ai y] 38)).alloc (.cells #[.slice d0 bs.length m0,.slice d1 ps.length m1,.slice d2 hs.length m2,.slice d3 ws.length m3,ai x,ai y] 38)):=ay (by rw[b1,a6]);clear b0 a7 a9 a8 h h' hb a6 b1 s1;have x0:=M.o.c0;have z0:=O.o.c0;have K0:=ay (J0 W2 _ _ bs (HI.o.b.below K.o) (HJ.o.b.below K.o) HS.o);go_enter Tryz.func11,Tryz.ntmps11;go_upto_region 1 with fail;rw[<-HW.o];clear HW;go_wp2_with fail;refine K0.o.mono ?_;rintro e w1 ⟨rfl,I⟩;have U:=ay I;clear I K0 x0 z0;have x1:=(M.o.step U.o).c1;have z1:=(O.o.step U.o).c1;have K1:=ay (Zu w1 _ _ ps (HI.o.p.below (bt K.o U.o)) (HJ.o.p.below (bt K.o U.o)) hp);go_wp2_with fail;refine K1.o.mono ?_;rintro e w2 ⟨rfl,I⟩;have V:=ay (bt U.o I);clear I K1 x1 z1;have x1:=(M.o.step V.o).c2;have z1:=(O.o.step V.o).c2;have K1:=ay (Zu w2 _ _ hs (HI.o.h.below (bt K.o V.o)) (HJ.o.h.below (bt K.o V.o)) hh);go_wp2_with fail;refine K1.o.mono ?_;rintro e w3 ⟨rfl,I⟩;have a4:=ay (bt V.o I);clear I K1 x1 z1;have x1:=(M.o.step a4.o).c3;have z1:=(O.o.step a4.o).c3;have K1:=ay (qAh w3 _ _ ws (HI.o.d.below (bt K.o a4.o)) (HJ.o.d.below (bt K.o a4.o)) hw);go_wp2_with fail;refine K1.o.mono ?_;rintro e w4 ⟨rfl,I⟩;have a5:=ay (bt a4.o I);clear I K1 x1 z1;have x1:=(M.o.step a5.o).c4;have z1:=(O.o.step a5.o).c4;have x2:=(M.o.step a5.o).c5;have z2:=(O.o.step a5.o).c5;go_wp2_with fail;refine(YJ _ _ _).mono ?_;rintro e w5 ⟨rfl,I⟩;go_wp2_with fail;go_ret;exact⟨rfl,bt K.o (bt a5.o I)⟩
theorem UY(w:World)(v0 v1 v2 v3:Value)(x y:Int)(bs:LL)(ps hs:LI)(ws:List (Int×Int))(h:IPl w v0 v1 v2 v3 bs ps hs ws)(hb:qT bs)(hp:ps.length<=1099511627776)(hh:hs.length<=1099511627776)(hw:ws.length<=1048576):
 Cl 8 #[.agg #[v0,v1,v2,v3,ai x,ai y]] w λe w'=>∃g0 g1 g2 g3,e=.returned (.agg #[.slice (some (az g0 0)) bs.length bs.length,.slice (some (az g1 0)) ps.length ps.length,.slice (some (az g2 0)) hs.length hs.length,.slice (some (az g3 0)) ws.length ws.length,ai x,ai y])/\
  IPl w' (.slice (some (az g0 0)) bs.length bs.length) (.slice (some (az g1 0)) ps.length ps.length) (.slice (some (az g2 0)) hs.length hs.length) (.slice (some (az g3 0)) ws.length ws.length) bs ps hs ws/\Bl w w'/\ShSS w.1.size w'.1.size w' g0 bs.length (λj=>(bs.getD j []).length)/\ShI w.1.size w'.1.size w' g1 ps.length/\ShI w.1.size w'.1.size w' g2 hs.length/\ShI w.1.size w'.1.size w' g3 (ws.length*2):=by
 have HI:=ay h;have HS:=ay hb;obtain⟨a0,k0,rfl,-⟩:=h.b;obtain⟨a1,k1,rfl,-⟩:=h.p;obtain⟨a2,k2,rfl,-⟩:=h.h;obtain⟨a3,k3,rfl,-⟩:=h.d;obtain⟨W1,a8⟩:=Ex (w.alloc (.cells #[.slice a0 bs.length k0,.slice a1 ps.length k1,.slice a2 hs.length k2,.slice a3 ws.length k3,ai x,ai y] 29));obtain⟨W2,a9⟩:=Ex (W1.alloc (.cells #[sn,sn,sn,sn,ai 0,ai 0] 38));obtain⟨W3,b8⟩:=Ex (W2.alloc (.cells #[sn,sn,sn,sn,ai 0,ai 0] 38));have b1:Bl w W1:=by rw[a8];exact(bJ _ _).alloc (nR _) _
 have b2:Bl W1 W2:=by rw[a9];exact(bJ _ _).alloc (nR _) _
 have b3:Bl W2 W3:=by rw[b8];exact(bJ _ _).alloc (nR _) _
 have s1:W1.1.size=w.1.size+1:=by rw[a8];simp
 have s2:W2.1.size=w.1.size+1+1:=by rw[a9,a8];simp
 have s3:W3.1.size=w.1.size+1+1+1:=by rw[b8,a9,a8];simp
 have A:=W6.new w (.slice a0 bs.length k0) (.slice a1 ps.length k1) (.slice a2 hs.length k2) (.slice a3 ws.length k3) (ai x) (ai y) 29;have R:=W6.new W1 sn sn sn sn (ai 0) (ai 0) 38;have O:=W6.new W2 sn sn sn sn (ai 0) (ai 0) 38;rw[<-a8]at A;rw[<-a9,s1]at R;rw[<-b8,s2]at O;have HA:=ay (A.below (bt b2 b3));have HR:=ay (R.below b3);have HO:=ay O;have HB:=ay (bt b1 (bt b2 b3));have HW:Hh (W3=((w.alloc (.cells #[.slice a0 bs.length k0,.slice a1 ps.length k1,.slice a2 hs.length k2,.slice a3 ws.length k3,ai x,ai y] 29)).alloc (.cells #[sn,sn,sn,sn,ai 0,ai 0] 38)).alloc (.cells #[sn,sn,sn,sn,ai 0,ai 0] 38)):=ay (by rw[b8,a9,a8]);clear A R O b1 b2 b3 s1 s2 a8 a9 b8 h hb;have K0:=ay (QM W3 _ bs (HI.o.b.below HB.o) HS.o);have x0:=HA.o.c0;go_enter Tryz.func8,Tryz.ntmps8;go_upto_region 2 with fail;rw[<-HW.o];clear HW;go_wp2_with fail;refine K0.o.mono ?_;rintro e w1 ⟨rfl,⟨fH,hH⟩,e2,I⟩;rw[s3]at e2 hH;have z0:=(HO.o.below I).c0;have z1:=(HO.o.below I).f0;have c9:=I.size;obtain⟨G0,d3⟩:=Ex (w.1.size+1+1+1);rw[s3,<-d3];rw[s3]at c9;rw[<-d3]at hH e2 c9;have i5:w.1.size+1+1<G0:=Oo;clear d3 s3;obtain⟨V1,a7⟩:=Ex (w1.setCell (az (w.1.size+1+1) 0) (.slice (some (az G0 0)) bs.length bs.length));have b9:Hh (W6 (w.1.size+1+1) (.slice (some (az G0 0)) bs.length bs.length) sn sn sn (ai 0) (ai 0) V1):=ay (by rw[a7];exact(HO.o.below I).set0 _);have e3:Hh (W6 (w.1.size+1) sn sn sn sn (ai 0) (ai 0) V1):=ay (by rw[a7];exact(HR.o.below I).far Oo);have d4:Hh (W6 w.1.size (.slice a0 bs.length k0) (.slice a1 ps.length k1) (.slice a2 hs.length k2) (.slice a3 ws.length k3) (ai x) (ai y) V1):=ay (by rw[a7];exact(HA.o.below I).far Oo);have d5:Hh (Bl w V1):=ay (by rw[a7];exact(bt HB.o I).setCell (by show w.1.size<=w.1.size+1+1;omega) _);have e4:Hh (Half V1 G0 bs.length bs.length bs fH):=ay (by rw[a7];exact hH.set Oo);have i6:G0<V1.1.size:=by rw[a7];simp[World.setCell];omega
 clear I hH K0 x0 HO HR HA HB;go_upto_region 3 with fail;rw[<-a7];clear a7 z0 z1;have x0:=d4.o.c1;have K0:=ay (yM V1 _ ps (HI.o.p.below d5.o) hp);go_wp2_with fail;refine K0.o.mono ?_;rintro e w2 ⟨rfl,K,I⟩;have z0:=(b9.o.below I).c1;have z1:=(b9.o.below I).f1;have e5:=I.size;have e6:=K.lt;obtain⟨G1,d0⟩:=Ex V1.1.size;have i7:G0<G1:=Oo;rw[<-d0]at K e5 e6 ⊢;clear d0;obtain⟨V2,a6⟩:=Ex (w2.setCell (az (w.1.size+1+1) 1) (.slice (some (az G1 0)) ps.length ps.length));have i1:G1<V2.1.size:=by rw[a6];simp[World.setCell];omega
 have c7:Hh (W6 (w.1.size+1+1) (.slice (some (az G0 0)) bs.length bs.length) (.slice (some (az G1 0)) ps.length ps.length) sn sn (ai 0) (ai 0) V2):=ay (by rw[a6];exact(b9.o.below I).set1 _);have e7:Hh (W6 (w.1.size+1) sn sn sn sn (ai 0) (ai 0) V2):=ay (by rw[a6];exact(e3.o.below I).far Oo);have d6:Hh (W6 w.1.size (.slice a0 bs.length k0) (.slice a1 ps.length k1) (.slice a2 hs.length k2) (.slice a3 ws.length k3) (ai x) (ai y) V2):=ay (by rw[a6];exact(d4.o.below I).far Oo);have d7:Hh (Bl w V2):=ay (by rw[a6];exact(bt d5.o I).setCell (by show w.1.size<=w.1.size+1+1;omega) _);have e8:Hh (Half V2 G0 bs.length bs.length bs fH):=ay (by rw[a6];exact(e4.o.below Oo I).set Oo);have e9:Hh (OwnI V2 G1 ps):=ay (by rw[a6];exact K.set Oo);clear I K K0 x0 b9 e3 d4 d5 e4;go_upto_region 4 with fail;rw[<-a6];clear a6 z0 z1;have x0:=d6.o.c2;have K0:=ay (yM V2 _ hs (HI.o.h.below d7.o) hh);go_wp2_with fail;refine K0.o.mono ?_;rintro e w3 ⟨rfl,K,I⟩;have z0:=(c7.o.below I).c2;have z1:=(c7.o.below I).f2;have f7:=I.size;have f8:=K.lt;obtain⟨G2,d1⟩:=Ex V2.1.size;have i8:G1<G2:=Oo;rw[<-d1]at K f7 f8 ⊢;clear d1;obtain⟨V3,a4⟩:=Ex (w3.setCell (az (w.1.size+1+1) 2) (.slice (some (az G2 0)) hs.length hs.length));have i2:G2<V3.1.size:=by rw[a4];simp[World.setCell];omega
 have c8:Hh (W6 (w.1.size+1+1) (.slice (some (az G0 0)) bs.length bs.length) (.slice (some (az G1 0)) ps.length ps.length) (.slice (some (az G2 0)) hs.length hs.length) sn (ai 0) (ai 0) V3):=ay (by rw[a4];exact(c7.o.below I).set2 _);have f9:Hh (W6 (w.1.size+1) sn sn sn sn (ai 0) (ai 0) V3):=ay (by rw[a4];exact(e7.o.below I).far Oo);have d8:Hh (W6 w.1.size (.slice a0 bs.length k0) (.slice a1 ps.length k1) (.slice a2 hs.length k2) (.slice a3 ws.length k3) (ai x) (ai y) V3):=ay (by rw[a4];exact(d6.o.below I).far Oo);have d9:Hh (Bl w V3):=ay (by rw[a4];exact(bt d7.o I).setCell (by show w.1.size<=w.1.size+1+1;omega) _);have g4:Hh (Half V3 G0 bs.length bs.length bs fH):=ay (by rw[a4];exact(e8.o.below Oo I).set Oo);have g5:Hh (OwnI V3 G1 ps):=ay (by rw[a4];exact(e9.o.below I).set Oo);have g6:Hh (OwnI V3 G2 hs):=ay (by rw[a4];exact K.set Oo);clear I K K0 x0 c7 e7 d6 d7 e8 e9;go_upto_region 5 with fail;rw[<-a4];clear a4 z0 z1;have x0:=d8.o.c3;have K0:=ay (Jy V3 _ ws (HI.o.d.below d9.o) hw);go_wp2_with fail;refine K0.o.mono ?_;rintro e w4 ⟨rfl,K,g7,I⟩;have z0:=(c8.o.below I).c3;have z1:=(c8.o.below I).f3;have g8:=I.size;obtain⟨G3,d2⟩:=Ex V3.1.size;have i9:G2<G3:=Oo;rw[<-d2]at K g8 g7 ⊢;clear d2;obtain⟨V4,V⟩:=Ex (w4.setCell (az (w.1.size+1+1) 3) (.slice (some (az G3 0)) ws.length ws.length));have i3:G3<V4.1.size:=by rw[V];simp[World.setCell];omega
 have b0:Hh (W6 (w.1.size+1+1) (.slice (some (az G0 0)) bs.length bs.length) (.slice (some (az G1 0)) ps.length ps.length) (.slice (some (az G2 0)) hs.length hs.length) (.slice (some (az G3 0)) ws.length ws.length) (ai 0) (ai 0) V4):=ay (by rw[V];exact(c8.o.below I).set3 _);have g9:Hh (W6 (w.1.size+1) sn sn sn sn (ai 0) (ai 0) V4):=ay (by rw[V];exact(f9.o.below I).far Oo);have e0:Hh (W6 w.1.size (.slice a0 bs.length k0) (.slice a1 ps.length k1) (.slice a2 hs.length k2) (.slice a3 ws.length k3) (ai x) (ai y) V4):=ay (by rw[V];exact(d8.o.below I).far Oo);have h0:Hh (Bl w V4):=ay (by rw[V];exact(bt d9.o I).setCell (by show w.1.size<=w.1.size+1+1;omega) _);have h1:Hh (Half V4 G0 bs.length bs.length bs fH):=ay (by rw[V];exact(g4.o.below Oo I).set Oo);have h2:Hh (OwnI V4 G1 ps):=ay (by rw[V];exact(g5.o.below I).set Oo);have h3:Hh (OwnI V4 G2 hs):=ay (by rw[V];exact(g6.o.below I).set Oo);have h4:Hh (IRb V4 G3 ws):=ay (by rw[V];exact K.move (bD _ _ _ _ (by show G3≠w.1.size+1+1;omega)));clear I K K0 x0 c8 f9 d8 d9 g4 g5 g6;go_upto_region 6 with fail;rw[<-V];clear V z0 z1;have x0:=e0.o.c4;have x1:=e0.o.c5;go_wp2_with fail;refine(Zz x y V4).mono ?_;rintro e w5 ⟨rfl,I⟩;have z0:=(b0.o.below I).c4;have z1:=(b0.o.below I).f4;have z2:=(b0.o.below I).c5;have z3:=(b0.o.below I).f5;have i4:=I.size;have e1:G3<w5.1.size:=Oo;obtain⟨V5,a5⟩:=Ex ((w5.setCell (az (w.1.size+1+1) 4) (ai x)).setCell (az (w.1.size+1+1) 5) (ai y));have h5:G3<V5.1.size:=by rw[a5];simp only[World.size_setCell];exact e1
 have b7:Hh (W6 (w.1.size+1+1) (.slice (some (az G0 0)) bs.length bs.length) (.slice (some (az G1 0)) ps.length ps.length) (.slice (some (az G2 0)) hs.length hs.length) (.slice (some (az G3 0)) ws.length ws.length) (ai x) (ai y) V5):=ay (by rw[a5];exact((b0.o.below I).set4 _).set5 _);have M:Hh (W6 (w.1.size+1) sn sn sn sn (ai 0) (ai 0) V5):=ay (by rw[a5];exact((g9.o.below I).far Oo).far Oo);have i0:Hh (Bl w V5):=ay (by rw[a5];exact((bt h0.o I).setCell (by show w.1.size<=w.1.size+1+1;omega) _).setCell (by show w.1.size<=w.1.size+1+1;omega) _);have h6:Hh (Half V5 G0 bs.length bs.length bs fH):=ay (by rw[a5];exact((h1.o.below Oo I).set Oo).set Oo);have h7:Hh (OwnI V5 G1 ps):=ay (by rw[a5];exact((h2.o.below I).set Oo).set Oo);have h8:Hh (OwnI V5 G2 hs):=ay (by rw[a5];exact((h3.o.below I).set Oo).set Oo);have h9:Hh (IRb V5 G3 ws):=ay (by rw[a5];exact h4.o.move (by rw[bD _ _ _ _ (by show G3≠w.1.size+1+1;omega),bD _ _ _ _ (by show G3≠w.1.size+1+1;omega)];exact I.block G3 Oo));clear I x0 x1 b0 g9 e0 h0 h1 h2 h3 h4;go_upto_region 7 with fail;rw[<-a5];clear a5 z0 z1 z2 z3;have o0:=b7.o.c0;have o1:=b7.o.c1;have o2:=b7.o.c2;have o3:=b7.o.c3;have o4:=b7.o.c4;have o5:=b7.o.c5;have r0:=M.o.c0;have r1:=M.o.c1;have r2:=M.o.c2;have r3:=M.o.c3;have r4:=M.o.c4;have r5:=M.o.c5;have p0:=M.o.f0;have p1:=M.o.f1;have p2:=M.o.f2;have p3:=M.o.f3;have p4:=M.o.f4;have p5:=M.o.f5;have HF:=ay ((((((M.o.set0 (.slice (some (az G0 0)) bs.length bs.length)).set1 (.slice (some (az G1 0)) ps.length ps.length)).set2 (.slice (some (az G2 0)) hs.length hs.length)).set3 (.slice (some (az G3 0)) ws.length ws.length)).set4 (ai x)).set5 (ai y));go_wp2;have t0:=HF.o.c0;have t1:=HF.o.c1;have t2:=HF.o.c2;have t3:=HF.o.c3;have t4:=HF.o.c4;have t5:=HF.o.c5;refine bodyPost_ret (v:=.agg #[.slice (some (az G0 0)) bs.length bs.length,.slice (some (az G1 0)) ps.length ps.length,.slice (some (az G2 0)) hs.length hs.length,.slice (some (az G3 0)) ws.length ws.length,ai x,ai y]) (by simp[results,Tryz.results8,go_sem,t0,t1,t2,t3,t4,t5]) rfl ⟨G0,G1,G2,G3,rfl,⟨?_,?_,?_,?_⟩,?_,?_,?_,?_,?_⟩;exact((((((h6.o.set Oo).set Oo).set Oo).set Oo).set Oo).set Oo).iss rfl;exact((((((h7.o.set Oo).set Oo).set Oo).set Oo).set Oo).set Oo).is;exact((((((h8.o.set Oo).set Oo).set Oo).set Oo).set Oo).set Oo).is
 ·refine IRb.ir (h9.o.move ?_);have U:∀k,G3≠((az (w.1.size+1) k):Addr).block:=λk=>by show G3≠w.1.size+1;omega
  rw[bD _ _ _ _ (U 5),bD _ _ _ _ (U 4),bD _ _ _ _ (U 3),bD _ _ _ _ (U 2),bD _ _ _ _ (U 1),bD _ _ _ _ (U 0)]
 ·have hle:∀k,w.1.size<=((az (w.1.size+1) k):Addr).block:=λk=>by show w.1.size<=w.1.size+1;omega
  exact(((((i0.o.setCell (hle 0) _).setCell (hle 1) _).setCell (hle 2) _).setCell (hle 3) _).setCell (hle 4) _).setCell (hle 5) _
 exact((((((h6.o.set Oo).set Oo).set Oo).set Oo).set Oo).set Oo).shss Oo;exact((((((h7.o.set Oo).set Oo).set Oo).set Oo).set Oo).set Oo).shE Oo;exact((((((h8.o.set Oo).set Oo).set Oo).set Oo).set Oo).set Oo).shE Oo;refine IRb.sh (h9.o.move ?_) Oo (by simp only[World.size_setCell];exact h5);have U:∀k,G3≠((az (w.1.size+1) k):Addr).block:=λk=>by show G3≠w.1.size+1;omega
 rw[bD _ _ _ _ (U 5),bD _ _ _ _ (U 4),bD _ _ _ _ (U 3),bD _ _ _ _ (U 2),bD _ _ _ _ (U 1),bD _ _ _ _ (U 0)]
end Go.Proofs.YtcnfapnfmnolbaaGreat
