import Derived.Deep.Cut
import Derived.Test.YtcnfapnfmnolbaaGreatRq16
set_option maxHeartbeats 40000000
set_option maxRecDepth 1000000
namespace Go.Proofs.YtcnfapnfmnolbaaGreat
open Go.RowKit
variable {b c j n r:Nat}{C:Nat->Nat->Rat}{a w:World}
theorem uS:(Tryz.prog.info? 192).map (·.size)=some 350:=Kl
def zSx:Array Value:=Array.replicate 330 (ai 0)++Array.replicate 20 (.bool false)
theorem Qf(w:World):(Instr.alloc 192 true (.tuple #[])).run Tryz.prog w=.ok (.pointer (some (az w.1.size 0))) (w.alloc (.cells zSx 192)):=Kl
theorem qAL{op:Oper}{a:Act}{K:Act->World->Prop}{Q:Exit->Act->World->Prop}(ho:op.op=.alloc 192)
 (h:K (a.put op.dst (.pointer (some (az w.1.size 0)))) (w.alloc (.cells zSx 192))):op.wp Tryz.prog a w K Q:=by
 unfold Oper.wp execOp;simp only[ho,Sem.run_bind,Sem.run_pure,Result.andThen_ok,Qf];exact h
theorem vG{ops:Array Oper}{rest:List Oper}{op:Oper}{a:Act}{Q:Exit->Act->World->Prop}(I:op.guard=none)(ho:op.op=.alloc 192)
 (h:wpList Tryz.prog ops Q rest (a.put op.dst (.pointer (some (az w.1.size 0)))) (w.alloc (.cells zSx 192))):wpList Tryz.prog ops Q (op::rest) a w:=
 wpList_plain I λ_ K=>qAL ho (K _ _ h)
theorem qa{b:World}(h:Below a.drew.1.size a.drew b):Bl a b:=⟨h.os,h.tape,h.output,h.size,h.block⟩
theorem xG{N:Nat}{a:World}{b:Nat}(hb:N<=b):∀(vs:List Value) (o:Nat) (w:World),Below N a w->Below N a (w.setCells b o vs)
 |[],_,_,h=>h
 |v::r,o,w,h=>by
  rw[World.setCells];exact xG hb r (o+1) _ (h.setCell hb v)
theorem Zo{a:World}{b:Nat}:∀(vs:List Value) (o:Nat) (w:World),Kb b a w->Kb b a (w.setCells b o vs)
 |[],_,_,h=>h
 |v::r,o,w,h=>by
  rw[World.setCells];exact Zo r (o+1) _ (h.set o v)
theorem kV:zSx.size=350:=by simp[zSx]
theorem yK(w:World)(t:TypeId):(w.alloc (.cells zSx t)).there w.1.size 0 350:=by
 intro j I;rw[Nat.zero_add];have hb:=heap_alloc_new w (.cells zSx t);refine⟨?_,?_⟩;rw[cell_of_row _ _ _ _ _ _ hb,Array.getElem?_eq_getElem (by rw[kV];exact I)];rfl;unfold World.frozen?;rw[hb];simp
theorem jJ{P:Program}{fn:Func}{p:Tmp}{ty:TypeId}(h:fn.results=#[.cell p ty])(tmps:Array Value)(w:World)(g:Nat)(cs:List Value)(d:TypeDesc)
 (K:tmps.getD p undef=.pointer (some (az g 0))) (M:w.rangeAt g 0 cs) (O:P.underlying ty=some d) (U:d.isRow=true) (hi:(P.info? ty).map (·.size)=some cs.length):
 (results fn tmps).run P w=.ok (.agg cs.toArray) w:=by
 have I:tmps[p]?.getD undef=.pointer (some (az g 0)):=by simpa using K
 simp[results,h,I,asAddr,run_loadVar_mid w g 0 ty cs d M O U hi]
theorem qv{w':World}(h:w.there b 0 n)(hb:Bl w w'):w'.there b 0 n:=by
 intro j M;obtain⟨K,O⟩:=h j M;obtain⟨u,U⟩:=Option.isSome_iff_exists.1 K;have I:=bL w _ U;rw[hb.cell (p:=(az b (0+j))) I,hb.frozen (p:=(az b (0+j))) I];exact⟨K,O⟩
theorem xV(h:w.there b 0 n)(k o:Nat)(v:Value):(w.setCell (az k o) v).there b 0 n:=World.there_setCells h k o [v]
theorem pvS{W:World}{k I m:Nat}{D:Nat->Nat->Rat}{B B2:Nat->Nat}{bar O:Nat->Bool}(K:SxAt W k m n C B bar)(U:SxAt W I m n D B2 O)(M:r<=m)(V:j<=n)(hc:c<=n):
 W.cell? (az k (2+r*40+j*2))=some (ai (C r j).num)/\W.cell? (az k (2+r*40+j*2+1))=some (ai (C r j).den)/\W.cell? (az k (2+r*40+c*2))=some (ai (C r c).num)/\W.cell? (az k (2+r*40+c*2+1))=some (ai (C r c).den)/\
 (W.cell? (az I (2+r*40+j*2))).isSome=true/\(W.cell? (az I (2+r*40+j*2+1))).isSome=true/\W.frozen? (az I (2+r*40+j*2))=false/\W.frozen? (az I (2+r*40+j*2+1))=false:=by
 have hm:=K.lay.mle;have hn:=K.lay.nle;have e1:W.cell? (az I (2+r*40+j*2))=_:=U.lay.num r j M V;have e2:W.cell? (az I (2+r*40+j*2+1))=_:=U.lay.den r j M V;exact⟨K.lay.num r j M V,K.lay.den r j M V,K.lay.num r c M hc,K.lay.den r c M hc,by rw[e1];rfl,by rw[e2];rfl,U.free _ Oo,U.free _ Oo⟩
def kX(C:Nat->Nat->Rat)(r c j:Nat):Nat->Nat->Rat:=λa b=>if b<j then Cov.pivT C r c a b else C a b
def ju(C:Nat->Nat->Rat)(r c j i:Nat):Nat->Nat->Rat:=λa b=>if b<j∨(b=j/\(a<i∨a=r)) then Cov.pivT C r c a b else C a b
theorem qCb(h:C r j=0)(a:Nat):Cov.pivT C r c a j=C a j:=by
 unfold Cov.pivT;split
 ·rename_i e;rw[e,h];grind
 rw[h];grind
theorem qDh{a:Nat}(h:C a c=0)(I:a≠r)(j:Nat):Cov.pivT C r c a j=C a j:=by
 unfold Cov.pivT;rw[if_neg I,h];grind
theorem UC(w:World)(k m n:Nat)(C:Nat->Nat->Rat)(B:Nat->Nat)(bar:Nat->Bool)(h:SxAt w k m n C B bar)(r c:Nat)(hr:r<m)(hc:c<n)
 (g5:C r c≠0) (e3:∀a b,a<=m->b<=n->Sm 41000 (C a b)) (d5:∀a b,a<=m->b<=n->Sm 41000 (Cov.pivT C r c a b)):
 Cl 176 #[.pointer (some (az k 0)),ai r,ai c] w λe w'=>∃V,e=.returned (.agg V)/\IsSx V m n (Cov.pivT C r c) (Cov.pivB B r c) bar/\Bl w w':=by
 have hn:=h.lay.nle;have hm:=h.lay.mle;have h8:=h.lt;have S1:=ay e3;have S2:=ay d5;clear e3 d5;obtain⟨cs,c8⟩:=Ex (cellsOf w k);have hlen:cs.length=350:=by rw[c8];exact xm w k
 have a7:w.rangeAt k 0 cs:=by rw[c8];exact ud h
 have d7:IsSx cs.toArray m n C B bar:=by rw[c8];exact Yo h
 clear c8;have HL:=ay hlen;have HR:=ay a7;clear hlen a7;go_enter Tryz.func176,Tryz.ntmps176;go_upto_region 1 with (refine vG rfl rfl ?_);go_frame;go_cut [7] (λv wc=>v=.pointer (some (az (w.1.size+1) 0))/\Bl w wc/\wc.there w.1.size 0 350/\SxAt wc (w.1.size+1) m n C B bar)
 case first=>
  have HT:Hh (((w.alloc (.cells zSx 192)).alloc (.cells zSx 192)).there (w.1.size+1) 0 cs.toArray.size):=by
   have:=yK (w.alloc (.cells zSx 192)) 192;rw[show(w.alloc (.cells zSx 192)).1.size=w.1.size+1 by simp]at this;rw[show cs.toArray.size=350 by simpa using HL.o];exact this
  have g6:Hh (((w.alloc (.cells zSx 192)).alloc (.cells zSx 192)).there (w.alloc (.cells zSx 192)).1.size 0 cs.toArray.size):=by
   rw[show cs.toArray.size=350 by simpa using HL.o];exact yK (w.alloc (.cells zSx 192)) 192
  have HI:Hh ((Tryz.prog.info? 192).map (·.size)=some cs.length):=by
   show _=_;rw[HL.o];exact uS
  have g7:Hh ((Tryz.prog.info? 192).map (·.size)=some cs.toArray.size):=by
   show _=_;rw[show cs.toArray.size=350 by simpa using HL.o];exact uS
  have HO:=ay d7.one;have g8:=ay (World.rangeAt_alloc HR.o (.cells zSx 192));go_wp2_with (first|(refine vG rfl rfl ?_)|(refine wpList_load_mid rfl 192 _ rfl k 0 Fl cs _ (by exact g8.o) Tryz.underlying192 Fl (by exact HI.o) ?_)|(refine wpList_store_mid rfl 192 _ _ rfl _ 0 cs.toArray Fl Fl (by first|with_reducible exact g6.o|with_reducible exact HT.o) (by exact g7.o) (by exact HO.o) ?_));go_meet;refine⟨Ss,?_,?_,?_⟩;exact xG Ss _ _ _ ((aK).alloc Ss _);exact World.there_setCells (World.there_alloc (yK w _) _) _ _ _;have:=d7.stored (b:=w.1.size+1) (w:=(w.alloc (.cells zSx 192)).alloc (.cells zSx 192)) (by have:=HT.o;rw[show cs.toArray.size=350 by simpa using HL.o]at this;exact this);simpa using this
 case rest=>
  obtain⟨rfl,hB,hT,hS⟩:=hcut;have hk:=h.below hB;have d8:wc.cell? (az k 1)=some (ai n):=hk.lay.cols;have g9:wc.cell? (az (w.1.size+1) (322+r))=some (ai (B r:Nat)):=hS.lay.bas r hr;have h0:wc.frozen? (az (w.1.size+1) (322+r))=false:=hS.free (322+r) Oo;have e4:=hB.setCell (p:=(az (w.1.size+1) (322+r))) Ss (ai (c:Nat));have e5:(wc.setCell (az (w.1.size+1) (322+r)) (ai (c:Nat))).there w.1.size 0 350:=World.there_setCells hT (w.1.size+1) (322+r) [ai (c:Nat)];have e6:=hS.setBas hr c;have i1:(r:Int)<8:=Oo;have i2:(c:Int)<20:=Oo;clear HL HR d7;go_wp2_with fail;go_loopw [22] (λt wr=>∃j:Nat,j<=n+1/\t=ai j/\Bl w wr/\wr.there w.1.size 0 350/\SxAt wr (w.1.size+1) m n (kX C r c j) (Cov.pivB B r c) bar) (λt _=>n+1-(intOf t).toNat);exact⟨0,nZ _,rfl,e4,e5,e6.congr (λ_ _ _ _=>if_neg Oo) (λ_ _=>rfl) (λ_ _=>rfl)⟩;obtain⟨j,hj,rfl,b8,c9,b0⟩:=hrel;clear hB hT hS d8 g9 h0 e4 e5 e6 hk;have b7:=h.below b8;by_cases h9:j<n+1
  ·have i3:(j:Int)<(n:Int)+1:=Oo;have i4:(j:Int)<20:=Oo;obtain⟨a1,a2⟩:=show wr.cell? (az k (2+r*40+j*2))=some (ai (C r j).num)/\wr.cell? (az k (2+r*40+j*2+1))=some (ai (C r j).den) from ⟨b7.lay.num r j Oo Oo,b7.lay.den r j Oo Oo⟩
   by_cases hz:C r j=0
   ·have hs:(sgR (C r j) == 0)=true:=by rw[vm hz];decide
    have h1:=ay hz;clear hz;go_wp2_with (first|(go_at_call 151;refine(uN (C r j) _).mono ?_;rintro e w' ⟨rfl,hb⟩));go_roundw
    case rel=>
     refine⟨j+1,Oo,Gg,bt b8 hb,λo ho=>?_,(b0.below hb).congr (λa b _ _=>?_) (λ_ _=>rfl) (λ_ _=>rfl)⟩;exact qv c9 hb o ho;unfold kX;by_cases e:b=j;rw[e,if_pos Oo,if_neg Oo,qCb h1.o];by_cases e2:b<j;rw[if_pos Oo,if_pos e2];rw[if_neg Oo,if_neg e2]
    case measure=>simp[intOf];omega
   have hs:(sgR (C r j) == 0)=false:=by
    by_cases e:C r j<0;rw[vi e];decide;rw[vk Rr];decide
   have X1:=ay (S1.o r j Oo Oo);have X2:=ay (S1.o r c Oo Oo);have k2:=w.1.size+1;have a8:w.1.size+1≠k:=Oo;have e7:w.1.size+1<wr.1.size:=b0.lt;obtain⟨a3,a4⟩:=show wr.cell? (az k (2+r*40+c*2))=some (ai (C r c).num)/\wr.cell? (az k (2+r*40+c*2+1))=some (ai (C r c).den) from ⟨b7.lay.num r c Oo Oo,b7.lay.den r c Oo Oo⟩
   go_upto_region 7 with (first|(go_at_call 151;refine(uN (C r j) _).mono ?_;rintro e w' ⟨rfl,O⟩));have U:=b7.below O;have I:=b0.below O;have d0:=bt b8 O;have d1:=qv c9 O;go_cut [8] (λv wx=>v=ai j/\Bl w wx/\wx.there w.1.size 0 350/\SxAt wx (w.1.size+1) m n (ju C r c j 0) (Cov.pivB B r c) bar)
   case first=>
    go_region_held3 (λw'=>w'.cell? (az k (2+r*40+j*2))=some (ai (C r j).num)/\w'.cell? (az k (2+r*40+j*2+1))=some (ai (C r j).den)/\w'.cell? (az k (2+r*40+c*2))=some (ai (C r c).num)/\w'.cell? (az k (2+r*40+c*2+1))=some (ai (C r c).den)/\(w'.cell? (az (w.1.size+1) (2+r*40+j*2))).isSome=true/\(w'.cell? (az (w.1.size+1) (2+r*40+j*2+1))).isSome=true/\w'.frozen? (az (w.1.size+1) (2+r*40+j*2))=false/\w'.frozen? (az (w.1.size+1) (2+r*40+j*2+1))=false)
     (first|exact pvS U.drew I.drew Oo Oo (Oo)|exact pvS (U.drew.below hb) (I.drew.below hb) Oo Oo (Oo)|exact pvS (((U.drew.below hb).far _ a8).far _ a8) ((I.drew.below hb).setNum Oo Oo (C r j / C r c)) Oo Oo Oo)
     (first|(go_at_call 234;refine(qBi (C r j) (C r c) _ X1.o X2.o Dd g5).mono ?_;rintro e w' ⟨rfl,hb⟩;have q1:w'.cell? (az (w.1.size+1) (2+r*40+j*2))=some (ai (kX C r c j r j).num):=(I.drew.below hb).lay.num r j Oo Oo;have q2:w'.cell? (az (w.1.size+1) (2+r*40+j*2+1))=some (ai (kX C r c j r j).den):=(I.drew.below hb).lay.den r j Oo Oo))
    go_wp2_with fail;go_meet;have a6:=(bJ _ _).drew.trans hb;refine⟨rfl,((bt d0 a6).setCell Ss _).setCell Ss _,xV (xV (qv d1 a6) _ _ _) _ _ _,((I.below a6).setNum Oo Oo (C r j / C r c)).congr (λa b _ _=>?_) (λ_ _=>rfl) (λ_ _=>rfl)⟩;unfold ju kX;by_cases e:a=r/\b=j;rw[if_pos e,if_pos Oo,e.1,e.2];exact if_pos rfl;rw[if_neg e];by_cases e2:b<j;rw[if_pos (Or.inl e2),if_pos e2];rw[if_neg Oo,if_neg e2]
   case rest=>
    obtain⟨rfl,d9,e8,e9⟩:=hcut;clear b8 c9 b0 b7 U I d0 d1 a1 a2 a3 a4 e7 O;obtain⟨wo,rfl⟩:=Ex (wc:World);have f7:wo.cell? (az k 0)=some (ai m):=(h.below d9).lay.rows;go_wp2_with fail;go_loopw [64] (λt wr=>∃i:Nat,i<=m+1/\t=ai i/\Bl w wr/\wr.there w.1.size 0 350/\SxAt wr (w.1.size+1) m n (ju C r c j i) (Cov.pivB B r c) bar) (λt _=>m+1-(intOf t).toNat);exact⟨0,nZ _,rfl,d9,e8,e9⟩;obtain⟨i,hi,rfl,b9,d2,d3⟩:=hrel;clear d9 e8 e9 f7;have e0:=h.below b9;by_cases i0:i<m+1
    ·have i5:(i:Int)<(m:Int)+1:=Oo;have i6:(i:Int)<8:=Oo;by_cases c7:i=r
     ·have h2:((i:Int) != (r:Int))=false:=Sy;have HI:=ay c7;clear c7;go_wp2_with fail;go_roundw
      case rel=>
       refine⟨i+1,Oo,Gg,b9,d2,d3.congr (λa b _ _=>?_) (λ_ _=>rfl) (λ_ _=>rfl)⟩;have:=HI.o;unfold ju;by_cases e:b<j∨(b=j/\(a<i∨a=r));rw[if_pos e,if_pos Oo];rw[if_neg e,if_neg Oo]
      case measure=>simp[intOf];omega
     have h2:((i:Int) != (r:Int))=true:=Sy;obtain⟨b1,b2⟩:=show wr.cell? (az k (2+i*40+c*2))=some (ai (C i c).num)/\wr.cell? (az k (2+i*40+c*2+1))=some (ai (C i c).den) from ⟨e0.lay.num i c Oo Oo,e0.lay.den i c Oo Oo⟩
     by_cases e1:C i c=0
     ·have h3:(sgR (C i c) != 0)=false:=by rw[vm e1];decide
      have HZ:=ay e1;clear e1;go_wp2_with (first|(go_at_call 151;refine(uN (C i c) _).mono ?_;rintro e w' ⟨rfl,hb⟩));go_roundw
      case rel=>
       refine⟨i+1,Oo,Gg,bt b9 hb,qv d2 hb,(d3.below hb).congr (λa b _ _=>?_) (λ_ _=>rfl) (λ_ _=>rfl)⟩;unfold ju;by_cases e:b<j∨(b=j/\(a<i∨a=r));rw[if_pos e,if_pos Oo];rw[if_neg e];by_cases e2:a=i/\b=j;rw[if_pos Oo,e2.1,e2.2,qDh HZ.o c7];rw[if_neg Oo]
      case measure=>simp[intOf];omega
     have h3:(sgR (C i c) != 0)=true:=by
      by_cases e:C i c<0;rw[vi e];decide;rw[vk Rr];decide
     have Y1:=ay (S1.o i j Oo Oo);have Y2:=ay (S1.o i c Oo Oo);have Y3:=ay (S2.o r j Oo Oo);have Y4:=ay (Y2.o.mul Y3.o);have a9:Hh (ju C r c j i r j=Cov.pivT C r c r j):=if_pos Oo;go_upto_region 12 with (first|(go_at_call 151;refine(uN (C i c) _).mono ?_;rintro e w' ⟨rfl,O⟩));have U:=e0.below O;have I:=d3.below O;have d0:=bt b9 O;have d1:=qv d2 O;have keep:∀W D B2 d6,SxAt W k m n C B bar->SxAt W (w.1.size+1) m n D B2 d6->D r j=Cov.pivT C r c r j->W.cell? (az k (2+i*40+j*2))=some (ai (C i j).num)/\W.cell? (az k (2+i*40+j*2+1))=some (ai (C i j).den)/\W.cell? (az k (2+i*40+c*2))=some (ai (C i c).num)/\W.cell? (az k (2+i*40+c*2+1))=some (ai (C i c).den)/\W.cell? (az (w.1.size+1) (2+r*40+j*2))=some (ai (Cov.pivT C r c r j).num)/\W.cell? (az (w.1.size+1) (2+r*40+j*2+1))=some (ai (Cov.pivT C r c r j).den):=λW D B2 d6 g1 g2 g3=>
      ⟨g1.lay.num i j Oo Oo,g1.lay.den i j Oo Oo,g1.lay.num i c Oo Oo,g1.lay.den i c Oo Oo,by rw[<-g3];exact g2.lay.num r j Oo Oo,by rw[<-g3];exact g2.lay.den r j Oo Oo⟩
     have KP:=ay keep;clear keep;go_region_held3 (λw'=>w'.cell? (az k (2+i*40+j*2))=some (ai (C i j).num)/\w'.cell? (az k (2+i*40+j*2+1))=some (ai (C i j).den)/\w'.cell? (az k (2+i*40+c*2))=some (ai (C i c).num)/\w'.cell? (az k (2+i*40+c*2+1))=some (ai (C i c).den)/\w'.cell? (az (w.1.size+1) (2+r*40+j*2))=some (ai (Cov.pivT C r c r j).num)/\w'.cell? (az (w.1.size+1) (2+r*40+j*2+1))=some (ai (Cov.pivT C r c r j).den))
      (first|exact KP.o _ _ _ _ U.drew I.drew a9.o|exact KP.o _ _ _ _ (U.drew.below hb) (I.drew.below hb) a9.o|exact KP.o _ _ _ _ ((U.drew.below hb).below a5) ((I.drew.below hb).below a5) a9.o|exact KP.o _ _ _ _ ((((U.drew.below hb).below a5).far _ a8).far _ a8) (((I.drew.below hb).below a5).setNum Oo Oo (C i j-C i c*Cov.pivT C r c r j)) ((if_neg (λe=>c7 e.1.symm)).trans a9.o))
      (first|(go_at_call 235;refine(qCa (C i c) (Cov.pivT C r c r j) _ Y2.o Y3.o Dd).mono ?_;rintro e w' ⟨rfl,hb⟩)|(go_at_call 150;refine(Xn (C i j) (C i c*Cov.pivT C r c r j) _ Y1.o Y4.o Dd).mono ?_;rintro e w'' ⟨rfl,a5⟩;have q1:w''.cell? (az (w.1.size+1) (2+i*40+j*2))=some (ai (ju C r c j i i j).num):=((I.drew.below hb).below a5).lay.num i j Oo Oo;have q2:w''.cell? (az (w.1.size+1) (2+i*40+j*2+1))=some (ai (ju C r c j i i j).den):=((I.drew.below hb).below a5).lay.den i j Oo Oo;have q3:w''.frozen? (az (w.1.size+1) (2+i*40+j*2))=false:=((I.drew.below hb).below a5).free _ Oo;have q4:w''.frozen? (az (w.1.size+1) (2+i*40+j*2+1))=false:=((I.drew.below hb).below a5).free _ Oo))
     go_wp2_with fail;go_roundw
     case measure=>simp[intOf];omega
     have a6:=bt (qa hb) a5;refine⟨i+1,Oo,Gg,((bt d0 a6).setCell Ss _).setCell Ss _,xV (xV (qv d1 a6) _ _ _) _ _ _,((I.below a6).setNum Oo Oo (C i j-C i c*Cov.pivT C r c r j)).congr (λa b _ _=>?_) (λ_ _=>rfl) (λ_ _=>rfl)⟩;unfold ju;by_cases e:a=i/\b=j;rw[if_pos e,if_pos Oo,e.1,e.2];unfold Cov.pivT;rw[if_neg c7,if_pos rfl];rw[if_neg e];by_cases e2:b<j∨(b=j/\(a<i∨a=r));rw[if_pos e2,if_pos Oo];rw[if_neg e2,if_neg Oo]
    obtain rfl:i=m+1:=Oo;have i5:¬((m:Int)+1<(m:Int)+1):=Oo;go_wp2_with fail;go_roundw
    case rel=>
     refine⟨j+1,Oo,Gg,b9,d2,d3.congr (λa b ha _=>?_) (λ_ _=>rfl) (λ_ _=>rfl)⟩;unfold ju kX;by_cases e:b<j+1;rw[if_pos e,if_pos Oo];rw[if_neg e,if_neg Oo]
    case measure=>simp[intOf];omega
  obtain rfl:j=n+1:=Oo;have i3:¬((n:Int)+1<(n:Int)+1):=Oo;obtain⟨cz,d4⟩:=Ex (cellsOf wr (w.1.size+1));have M:cz.length=350:=by rw[d4];exact xm _ _
  have h4:Hh (wr.rangeAt (w.1.size+1) 0 cz):=by rw[d4];exact ud b0
  have K:IsSx cz.toArray m n (kX C r c (n+1)) (Cov.pivB B r c) bar:=by rw[d4];exact Yo b0
  have h5:=ay K.one;have f8:Hh (wr.there w.1.size 0 cz.toArray.size):=by
   rw[show cz.toArray.size=350 by simpa using M];exact c9
  have f9:Hh ((Tryz.prog.info? 192).map (·.size)=some cz.length):=by
   show _=_;rw[M];exact uS
  have h6:Hh ((Tryz.prog.info? 192).map (·.size)=some cz.toArray.size):=by
   show _=_;rw[show cz.toArray.size=350 by simpa using M];exact uS
  clear d4;have i7:=ay M;clear M;go_wp2_with (first|(refine wpList_load_mid rfl 192 _ rfl (w.1.size+1) 0 Fl cz _ (by exact h4.o) Tryz.underlying192 Fl (by exact f9.o) ?_)|(refine wpList_store_mid rfl 192 _ _ rfl w.1.size 0 cz.toArray Fl Fl (by exact f8.o) (by exact h6.o) (by exact h5.o) ?_));have g4:IsSx cz.toArray m n (Cov.pivT C r c) (Cov.pivB B r c) bar:=⟨K.1,⟨K.2.rows,K.2.cols,λa b ha hb=>(K.2.num a b ha hb).trans (by unfold kX;rw[if_pos Oo]),λa b ha hb=>(K.2.den a b ha hb).trans (by unfold kX;rw[if_pos Oo]),K.2.bas,K.2.bars,K.2.one,K.2.mle,K.2.nle⟩⟩;have h7:(wr.setCells w.1.size 0 cz.toArray.toList).rangeAt w.1.size 0 cz:=by
   have:=World.rangeAt_setCells_same wr w.1.size 0 cz.toArray.toList (by have:=f8.o;simpa using this);simpa using this
  refine bodyPost_ret (v:=.agg cz.toArray) (jJ Tryz.results176 _ _ w.1.size cz _ Fl h7 Tryz.underlying192 Fl f9.o) rfl ⟨_,rfl,g4,xG (nR _) _ _ _ b8⟩
end Go.Proofs.YtcnfapnfmnolbaaGreat
