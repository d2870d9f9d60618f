import Derived.Deep.Cut
import Derived.Test.YtkaipapdlnojiaaGreatWq08
set_option maxHeartbeats 40000000
set_option maxRecDepth 1000000
namespace Go.Proofs.YtkaipapdlnojiaaGreat
open Go.RowKit
variable {b c j n r:Nat}{C:Nat->Nat->Rat}{a w:World}
theorem vZ:(Tryz.prog.info? 103).map (·.size)=some 350:=by kernel_rfl
def zSx:Array Value:=Array.replicate 330 (.int .i64 0)++Array.replicate 20 (.bool false)
theorem kx(w:World):(Instr.alloc 103 true (.tuple #[])).run Tryz.prog w=.ok (.pointer (some ⟨w.heap.size,0,none⟩)) (w.alloc (.cells zSx 103)):=by kernel_rfl
theorem Jq{op:Oper}{a:Act}{K:Act->World->Prop}{Q:Exit->Act->World->Prop}(I:op.op=.alloc 103)
 (h:K (a.put op.dst (.pointer (some ⟨w.heap.size,0,none⟩))) (w.alloc (.cells zSx 103))):op.wp Tryz.prog a w K Q:=by
 unfold Oper.wp execOp;simp only[I,Sem.run_bind,Sem.run_pure,Result.andThen_ok,kx];exact h
theorem yb{ops:Array Oper}{rest:List Oper}{op:Oper}{a:Act}{Q:Exit->Act->World->Prop}(I:op.guard=none)(K:op.op=.alloc 103)
 (h:wpList Tryz.prog ops Q rest (a.put op.dst (.pointer (some ⟨w.heap.size,0,none⟩))) (w.alloc (.cells zSx 103))):wpList Tryz.prog ops Q (op::rest) a w:=
 wpList_plain I λ_ M=>Jq K (M _ _ h)
theorem qQ{b:World}(h:Below a.drew.heap.size a.drew b):Bl a b:=⟨h.os,h.tape,h.output,h.size,h.block⟩
theorem zt{N:Nat}{a:World}{b:Nat}(hb:N<=b):∀(vs:List Value) (o:Nat) (w:World),Below N a w->Below N a (w.setCells b o vs)
 |[],_,_,h=>h
 |v::r,o,w,h=>by
  rw[World.setCells];exact zt hb r (o+1) _ (h.setCell hb v)
theorem Qw{a:World}{b:Nat}:∀(vs:List Value) (o:Nat) (w:World),Kb b a w->Kb b a (w.setCells b o vs)
 |[],_,_,h=>h
 |v::r,o,w,h=>by
  rw[World.setCells];exact Qw r (o+1) _ (h.set o v)
theorem j7:zSx.size=350:=by simp[zSx]
theorem xo(w:World)(t:TypeId):(w.alloc (.cells zSx t)).there w.heap.size 0 350:=by
 intro j I;rw[Nat.zero_add];have hb:=heap_alloc_new w (.cells zSx t);refine⟨?_,?_⟩
 ·rw[cell_of_row _ _ _ _ _ _ hb,Array.getElem?_eq_getElem (by rw[j7];exact I)];rfl
 ·unfold World.frozen?;rw[hb];simp
theorem uV{P:Program}{fn:Func}{p:Tmp}{ty:TypeId}(h:fn.results=#[.cell p ty])(tmps:Array Value)(w:World)(g:Nat)(cs:List Value)(d:TypeDesc)
 (hp:tmps.getD p undef=.pointer (some ⟨g,0,none⟩)) (hr:w.rangeAt g 0 cs) (K:P.underlying ty=some d) (M:d.isRow=true) (hi:(P.info? ty).map (·.size)=some cs.length):
 (results fn tmps).run P w=.ok (.agg cs.toArray) w:=by
 have I:tmps[p]?.getD undef=.pointer (some ⟨g,0,none⟩):=by simpa using hp
 simp[results,h,I,asAddr,run_loadVar_mid w g 0 ty cs d hr K M hi]
theorem qm{w':World}(h:w.there b 0 n)(hb:Bl w w'):w'.there b 0 n:=by
 intro j M;obtain⟨K,O⟩:=h j M;obtain⟨u,U⟩:=Option.isSome_iff_exists.1 K;have I:=bL w _ U;rw[hb.cell (p:=⟨b,0+j,none⟩) I,hb.frozen (p:=⟨b,0+j,none⟩) I];exact⟨K,O⟩
theorem xF(h:w.there b 0 n)(k o:Nat)(v:Value):(w.setCell ⟨k,o,none⟩ v).there b 0 n:=World.there_setCells h k o [v]
theorem pvS{W:World}{k k2 m:Nat}{D:Nat->Nat->Rat}{B V:Nat->Nat}{bar K:Nat->Bool}(I:SxAt W k m n C B bar)(M:SxAt W k2 m n D V K)(hr:r<=m)(O:j<=n)(U:c<=n):
 W.cell? ⟨k,2+r*40+j*2,none⟩=some (.int .i64 (C r j).num)/\W.cell? ⟨k,2+r*40+j*2+1,none⟩=some (.int .i64 (C r j).den)/\W.cell? ⟨k,2+r*40+c*2,none⟩=some (.int .i64 (C r c).num)/\W.cell? ⟨k,2+r*40+c*2+1,none⟩=some (.int .i64 (C r c).den)/\
 (W.cell? ⟨k2,2+r*40+j*2,none⟩).isSome=true/\(W.cell? ⟨k2,2+r*40+j*2+1,none⟩).isSome=true/\W.frozen? ⟨k2,2+r*40+j*2,none⟩=false/\W.frozen? ⟨k2,2+r*40+j*2+1,none⟩=false:=by
 have hm:=I.lay.mle;have hn:=I.lay.nle;have e1:W.cell? ⟨k2,2+r*40+j*2,none⟩=_:=M.lay.num r j hr O;have e2:W.cell? ⟨k2,2+r*40+j*2+1,none⟩=_:=M.lay.den r j hr O;exact⟨I.lay.num r j hr O,I.lay.den r j hr O,I.lay.num r c hr U,I.lay.den r c hr U,by rw[e1];rfl,by rw[e2];rfl,M.free _ Oo,M.free _ Oo⟩
def j8(C:Nat->Nat->Rat)(r c j:Nat):Nat->Nat->Rat:=λa b=>if b < j then Cov.pivT C r c a b else C a b
def jP(C:Nat->Nat->Rat)(r c j i:Nat):Nat->Nat->Rat:=λa b=>if b < j∨(b=j/\(a < i∨a=r)) then Cov.pivT C r c a b else C a b
theorem qBk(h:C r j=0)(a:Nat):Cov.pivT C r c a j=C a j:=by
 unfold Cov.pivT;split
 ·rename_i e;rw[e,h];grind
 ·rw[h];grind
theorem qCr{a:Nat}(h:C a c=0)(I:a≠r)(j:Nat):Cov.pivT C r c a j=C a j:=by
 unfold Cov.pivT;rw[if_neg I,h];grind
theorem VE(w:World)(k m n:Nat)(C:Nat->Nat->Rat)(B:Nat->Nat)(bar:Nat->Bool)(h:SxAt w k m n C B bar)(r c:Nat)(hr:r < m)(hc:c < n)
 (h1:C r c≠0) (f4:∀a b,a<=m->b<=n->Sm 41000 (C a b)) (e3:∀a b,a<=m->b<=n->Sm 41000 (Cov.pivT C r c a b)):
 Cl 96 #[.pointer (some ⟨k,0,none⟩),.int .i64 r,.int .i64 c] w λe w'=>∃V,e=.returned (.agg V)/\IsSx V m n (Cov.pivT C r c) (Cov.pivB B r c) bar/\Bl w w':=by
 have hn:=h.lay.nle;have hm:=h.lay.mle;have j0:=h.lt;have S1:=hid f4;have S2:=hid e3;clear f4 e3;obtain⟨cs,c9⟩:∃cs,cs=cellsOf w k:=⟨_,rfl⟩;have hlen:cs.length=350:=by rw[c9];exact xT w k
 have a7:w.rangeAt k 0 cs:=by rw[c9];exact uA h
 have e5:IsSx cs.toArray m n C B bar:=by rw[c9];exact Xb h
 clear c9;have HL:=hid hlen;have HR:=hid a7;clear hlen a7;go_enter Tryz.func96,Tryz.ntmps96
 go_upto_region 1 with (refine yb rfl rfl ?_)
 go_frame;go_cut [7] (λv wc=>v=.pointer (some ⟨w.heap.size+1,0,none⟩)/\Bl w wc/\wc.there w.heap.size 0 350/\SxAt wc (w.heap.size+1) m n C B bar)
 case first=>
  have HT:Hid (((w.alloc (.cells zSx 103)).alloc (.cells zSx 103)).there (w.heap.size+1) 0 cs.toArray.size):=by
   have:=xo (w.alloc (.cells zSx 103)) 103;rw[show(w.alloc (.cells zSx 103)).heap.size=w.heap.size+1 by simp]at this;rw[show cs.toArray.size=350 by simpa using HL.out];exact this
  have h2:Hid (((w.alloc (.cells zSx 103)).alloc (.cells zSx 103)).there (w.alloc (.cells zSx 103)).heap.size 0 cs.toArray.size):=by
   rw[show cs.toArray.size=350 by simpa using HL.out];exact xo (w.alloc (.cells zSx 103)) 103
  have HI:Hid ((Tryz.prog.info? 103).map (·.size)=some cs.length):=by
   show _=_;rw[HL.out];exact vZ
  have h3:Hid ((Tryz.prog.info? 103).map (·.size)=some cs.toArray.size):=by
   show _=_;rw[show cs.toArray.size=350 by simpa using HL.out];exact vZ
  have HO:=hid e5.one;have h4:=hid (World.rangeAt_alloc HR.out (.cells zSx 103));go_wp2_with (first|(refine yb rfl rfl ?_)|(refine wpList_load_mid rfl 103 _ rfl k 0 (by rfl) cs _ (by exact h4.out) Tryz.underlying103 (by rfl) (by exact HI.out) ?_)|(refine wpList_store_mid rfl 103 _ _ rfl _ 0 cs.toArray (by rfl) (by rfl) (by first|with_reducible exact h2.out|with_reducible exact HT.out) (by exact h3.out) (by exact HO.out) ?_))
  go_meet;refine⟨Ss,?_,?_,?_⟩
  ·exact zt Ss _ _ _ (((bM _ _).alloc (bK _) _).alloc Ss _)
  ·exact World.there_setCells (World.there_alloc (xo w _) _) _ _ _
  ·have:=e5.stored (b:=w.heap.size+1) (w:=(w.alloc (.cells zSx 103)).alloc (.cells zSx 103)) (by have:=HT.out;rw[show cs.toArray.size=350 by simpa using HL.out]at this;exact this);simpa using this
 case rest=>
  obtain⟨rfl,hB,hT,hS⟩:=hcut;have hk:=h.below hB;have e6:wc.cell? ⟨k,1,none⟩=some (.int .i64 n):=hk.lay.cols;have h5:wc.cell? ⟨w.heap.size+1,322+r,none⟩=some (.int .i64 (B r:Nat)):=hS.lay.bas r hr;have h6:wc.frozen? ⟨w.heap.size+1,322+r,none⟩=false:=hS.free (322+r) Oo;have f7:=hB.setCell (p:=⟨w.heap.size+1,322+r,none⟩) Ss (.int .i64 (c:Nat));have f8:(wc.setCell ⟨w.heap.size+1,322+r,none⟩ (.int .i64 (c:Nat))).there w.heap.size 0 350:=World.there_setCells hT (w.heap.size+1) (322+r) [.int .i64 (c:Nat)];have f9:=hS.setBas hr c;have i1:(r:Int) < 8:=Oo;have i2:(c:Int) < 20:=Oo;clear HL HR e5;go_wp2_with fail
  go_loopw [22] (λt wr=>∃j:Nat,j<=n+1/\t=.int .i64 j/\Bl w wr/\wr.there w.heap.size 0 350/\SxAt wr (w.heap.size+1) m n (j8 C r c j) (Cov.pivB B r c) bar) (λt _=>n+1 - (intOf t).toNat)
  case atStart=>exact⟨0,nZ _,rfl,f7,f8,f9.congr (λ_ _ _ _=>if_neg Oo) (λ_ _=>rfl) (λ_ _=>rfl)⟩
  case round=>
   obtain⟨j,hj,rfl,b9,d0,b0⟩:=hrel;clear hB hT hS e6 h5 h6 f7 f8 f9 hk;have b7:=h.below b9;by_cases j1:j < n+1
   ·have i3:(j:Int) < (n:Int)+1:=Oo;have i4:(j:Int) < 20:=Oo;obtain⟨a1,a2⟩:=show wr.cell? ⟨k,2+r*40+j*2,none⟩=some (.int .i64 (C r j).num)/\wr.cell? ⟨k,2+r*40+j*2+1,none⟩=some (.int .i64 (C r j).den) from ⟨b7.lay.num r j Oo Oo,b7.lay.den r j Oo Oo⟩
    by_cases hz:C r j=0
    ·have hs:(sgR (C r j) == 0)=true:=by rw[yy hz];decide
     have h7:=hid hz;clear hz;go_wp2_with (first|(go_at_call 188;refine(vM (C r j) _).mono ?_;rintro e w' ⟨rfl,hb⟩))
     go_roundw
     case rel=>
      refine⟨j+1,Oo,Gg,bt b9 hb,λo ho=>?_,(b0.below hb).congr (λa b _ _=>?_) (λ_ _=>rfl) (λ_ _=>rfl)⟩
      ·exact qm d0 hb o ho
      ·unfold j8;by_cases e:b=j
       ·rw[e,if_pos Oo,if_neg Oo,qBk h7.out]
       ·by_cases e2:b < j
        ·rw[if_pos Oo,if_pos e2]
        ·rw[if_neg Oo,if_neg e2]
     case measure=>simp[intOf];omega
    ·have hs:(sgR (C r j) == 0)=false:=by
      by_cases e:C r j < 0
      ·rw[yu e];decide
      ·rw[yw Rr];decide
     have X1:=hid (S1.out r j Oo Oo);have X2:=hid (S1.out r c Oo Oo);have k2:=w.heap.size+1;have a8:w.heap.size+1≠k:=Oo;have g4:w.heap.size+1 < wr.heap.size:=b0.lt;obtain⟨a3,a4⟩:=show wr.cell? ⟨k,2+r*40+c*2,none⟩=some (.int .i64 (C r c).num)/\wr.cell? ⟨k,2+r*40+c*2+1,none⟩=some (.int .i64 (C r c).den) from ⟨b7.lay.num r c Oo Oo,b7.lay.den r c Oo Oo⟩
     go_upto_region 7 with (first|(go_at_call 188;refine(vM (C r j) _).mono ?_;rintro e w' ⟨rfl,O⟩))
     have U:=b7.below O;have I:=b0.below O;have d6:=bt b9 O;have d7:=qm d0 O;go_cut [8] (λv wx=>v=.int .i64 j/\Bl w wx/\wx.there w.heap.size 0 350/\SxAt wx (w.heap.size+1) m n (jP C r c j 0) (Cov.pivB B r c) bar)
     case first=>
      go_region_held3 (λw'=>w'.cell? ⟨k,2+r*40+j*2,none⟩=some (.int .i64 (C r j).num)/\w'.cell? ⟨k,2+r*40+j*2+1,none⟩=some (.int .i64 (C r j).den)/\w'.cell? ⟨k,2+r*40+c*2,none⟩=some (.int .i64 (C r c).num)/\w'.cell? ⟨k,2+r*40+c*2+1,none⟩=some (.int .i64 (C r c).den)/\(w'.cell? ⟨w.heap.size+1,2+r*40+j*2,none⟩).isSome=true/\(w'.cell? ⟨w.heap.size+1,2+r*40+j*2+1,none⟩).isSome=true/\w'.frozen? ⟨w.heap.size+1,2+r*40+j*2,none⟩=false/\w'.frozen? ⟨w.heap.size+1,2+r*40+j*2+1,none⟩=false)
       (first|exact pvS U.drew I.drew Oo Oo (Oo)|exact pvS (U.drew.below hb) (I.drew.below hb) Oo Oo (Oo)|exact pvS (((U.drew.below hb).far _ a8).far _ a8) ((I.drew.below hb).setNum Oo Oo (C r j / C r c)) Oo Oo Oo)
       (first|(go_at_call 187;refine(qAb (C r j) (C r c) _ X1.out X2.out Dd h1).mono ?_;rintro e w' ⟨rfl,hb⟩;have q1:w'.cell? ⟨w.heap.size+1,2+r*40+j*2,none⟩=some (.int .i64 (j8 C r c j r j).num):=(I.drew.below hb).lay.num r j Oo Oo;have q2:w'.cell? ⟨w.heap.size+1,2+r*40+j*2+1,none⟩=some (.int .i64 (j8 C r c j r j).den):=(I.drew.below hb).lay.den r j Oo Oo))
      go_wp2_with fail
      go_meet;have a6:=(bM _ _).drew.trans hb;refine⟨rfl,((bt d6 a6).setCell Ss _).setCell Ss _,xF (xF (qm d7 a6) _ _ _) _ _ _,((I.below a6).setNum Oo Oo (C r j / C r c)).congr (λa b _ _=>?_) (λ_ _=>rfl) (λ_ _=>rfl)⟩;unfold jP j8;by_cases e:a=r/\b=j
      ·rw[if_pos e,if_pos Oo,e.1,e.2];exact if_pos rfl
      ·rw[if_neg e];by_cases e2:b < j
       ·rw[if_pos (Or.inl e2),if_pos e2]
       ·rw[if_neg Oo,if_neg e2]
     case rest=>
      obtain⟨rfl,e7,g5,g6⟩:=hcut;clear b9 d0 b0 b7 U I d6 d7 a1 a2 a3 a4 g4 O;obtain⟨wo,rfl⟩:∃wo:World,wo=wc:=⟨_,rfl⟩;have g7:wo.cell? ⟨k,0,none⟩=some (.int .i64 m):=(h.below e7).lay.rows;go_wp2_with fail
      go_loopw [64] (λt wr=>∃i:Nat,i<=m+1/\t=.int .i64 i/\Bl w wr/\wr.there w.heap.size 0 350/\SxAt wr (w.heap.size+1) m n (jP C r c j i) (Cov.pivB B r c) bar) (λt _=>m+1 - (intOf t).toNat)
      case atStart=>exact⟨0,nZ _,rfl,e7,g5,g6⟩
      case round=>
       obtain⟨i,hi,rfl,c7,d8,d9⟩:=hrel;clear e7 g5 g6 g7;have e8:=h.below c7;by_cases j2:i < m+1
       ·have i5:(i:Int) < (m:Int)+1:=Oo;have i6:(i:Int) < 8:=Oo;by_cases c8:i=r
        ·have h8:((i:Int) != (r:Int))=false:=by simp;omega
         have HI:=hid c8;clear c8;go_wp2_with fail
         go_roundw
         case rel=>
          refine⟨i+1,Oo,Gg,c7,d8,d9.congr (λa b _ _=>?_) (λ_ _=>rfl) (λ_ _=>rfl)⟩;have:=HI.out;unfold jP;by_cases e:b < j∨(b=j/\(a < i∨a=r))
          ·rw[if_pos e,if_pos Oo]
          ·rw[if_neg e,if_neg Oo]
         case measure=>simp[intOf];omega
        ·have h8:((i:Int) != (r:Int))=true:=by simp;omega
         obtain⟨b1,b2⟩:=show wr.cell? ⟨k,2+i*40+c*2,none⟩=some (.int .i64 (C i c).num)/\wr.cell? ⟨k,2+i*40+c*2+1,none⟩=some (.int .i64 (C i c).den) from ⟨e8.lay.num i c Oo Oo,e8.lay.den i c Oo Oo⟩
         by_cases e9:C i c=0
         ·have h9:(sgR (C i c) != 0)=false:=by rw[yy e9];decide
          have HZ:=hid e9;clear e9;go_wp2_with (first|(go_at_call 188;refine(vM (C i c) _).mono ?_;rintro e w' ⟨rfl,hb⟩))
          go_roundw
          case rel=>
           refine⟨i+1,Oo,Gg,bt c7 hb,qm d8 hb,(d9.below hb).congr (λa b _ _=>?_) (λ_ _=>rfl) (λ_ _=>rfl)⟩;unfold jP;by_cases e:b < j∨(b=j/\(a < i∨a=r))
           ·rw[if_pos e,if_pos Oo]
           ·rw[if_neg e];by_cases e2:a=i/\b=j
            ·rw[if_pos Oo,e2.1,e2.2,qCr HZ.out c8]
            ·rw[if_neg Oo]
          case measure=>simp[intOf];omega
         ·have h9:(sgR (C i c) != 0)=true:=by
           by_cases e:C i c < 0
           ·rw[yu e];decide
           ·rw[yw Rr];decide
          have Y1:=hid (S1.out i j Oo Oo);have Y2:=hid (S1.out i c Oo Oo);have Y3:=hid (S2.out r j Oo Oo);have Y4:=hid (Y2.out.mul Y3.out);have a9:Hid (jP C r c j i r j=Cov.pivT C r c r j):=if_pos Oo;go_upto_region 12 with (first|(go_at_call 188;refine(vM (C i c) _).mono ?_;rintro e w' ⟨rfl,O⟩))
          have U:=e8.below O;have I:=d9.below O;have d6:=bt c7 O;have d7:=qm d8 O
          have keep:∀W D B2 e4,SxAt W k m n C B bar->SxAt W (w.heap.size+1) m n D B2 e4->D r j=Cov.pivT C r c r j->W.cell? ⟨k,2+i*40+j*2,none⟩=some (.int .i64 (C i j).num)/\W.cell? ⟨k,2+i*40+j*2+1,none⟩=some (.int .i64 (C i j).den)/\W.cell? ⟨k,2+i*40+c*2,none⟩=some (.int .i64 (C i c).num)/\W.cell? ⟨k,2+i*40+c*2+1,none⟩=some (.int .i64 (C i c).den)/\W.cell? ⟨w.heap.size+1,2+r*40+j*2,none⟩=some (.int .i64 (Cov.pivT C r c r j).num)/\W.cell? ⟨w.heap.size+1,2+r*40+j*2+1,none⟩=some (.int .i64 (Cov.pivT C r c r j).den):=λW D B2 e4 g1 g2 g3=>
           ⟨g1.lay.num i j Oo Oo,g1.lay.den i j Oo Oo,g1.lay.num i c Oo Oo,g1.lay.den i c Oo Oo,by rw[<-g3];exact g2.lay.num r j Oo Oo,by rw[<-g3];exact g2.lay.den r j Oo Oo⟩
          have KP:=hid keep;clear keep
          go_region_held3 (λw'=>w'.cell? ⟨k,2+i*40+j*2,none⟩=some (.int .i64 (C i j).num)/\w'.cell? ⟨k,2+i*40+j*2+1,none⟩=some (.int .i64 (C i j).den)/\w'.cell? ⟨k,2+i*40+c*2,none⟩=some (.int .i64 (C i c).num)/\w'.cell? ⟨k,2+i*40+c*2+1,none⟩=some (.int .i64 (C i c).den)/\w'.cell? ⟨w.heap.size+1,2+r*40+j*2,none⟩=some (.int .i64 (Cov.pivT C r c r j).num)/\w'.cell? ⟨w.heap.size+1,2+r*40+j*2+1,none⟩=some (.int .i64 (Cov.pivT C r c r j).den))
           (first|exact KP.out _ _ _ _ U.drew I.drew a9.out|exact KP.out _ _ _ _ (U.drew.below hb) (I.drew.below hb) a9.out|exact KP.out _ _ _ _ ((U.drew.below hb).below a5) ((I.drew.below hb).below a5) a9.out|exact KP.out _ _ _ _ ((((U.drew.below hb).below a5).far _ a8).far _ a8) (((I.drew.below hb).below a5).setNum Oo Oo (C i j - C i c*Cov.pivT C r c r j)) ((if_neg (λe=>c8 e.1.symm)).trans a9.out))
           (first|(go_at_call 189;refine(qBj (C i c) (Cov.pivT C r c r j) _ Y2.out Y3.out Dd).mono ?_;rintro e w' ⟨rfl,hb⟩)|(go_at_call 186;refine(Zo (C i j) (C i c*Cov.pivT C r c r j) _ Y1.out Y4.out Dd).mono ?_;rintro e e0 ⟨rfl,a5⟩;have q1:e0.cell? ⟨w.heap.size+1,2+i*40+j*2,none⟩=some (.int .i64 (jP C r c j i i j).num):=((I.drew.below hb).below a5).lay.num i j Oo Oo;have q2:e0.cell? ⟨w.heap.size+1,2+i*40+j*2+1,none⟩=some (.int .i64 (jP C r c j i i j).den):=((I.drew.below hb).below a5).lay.den i j Oo Oo;have q3:e0.frozen? ⟨w.heap.size+1,2+i*40+j*2,none⟩=false:=((I.drew.below hb).below a5).free _ Oo;have q4:e0.frozen? ⟨w.heap.size+1,2+i*40+j*2+1,none⟩=false:=((I.drew.below hb).below a5).free _ Oo))
          go_wp2_with fail
          go_roundw
          case measure=>simp[intOf];omega
          have a6:=bt (qQ hb) a5;refine⟨i+1,Oo,Gg,((bt d6 a6).setCell Ss _).setCell Ss _,xF (xF (qm d7 a6) _ _ _) _ _ _,((I.below a6).setNum Oo Oo (C i j - C i c*Cov.pivT C r c r j)).congr (λa b _ _=>?_) (λ_ _=>rfl) (λ_ _=>rfl)⟩;unfold jP;by_cases e:a=i/\b=j
          ·rw[if_pos e,if_pos Oo,e.1,e.2];unfold Cov.pivT;rw[if_neg c8,if_pos rfl]
          ·rw[if_neg e];by_cases e2:b < j∨(b=j/\(a < i∨a=r))
           ·rw[if_pos e2,if_pos Oo]
           ·rw[if_neg e2,if_neg Oo]
       ·obtain rfl:i=m+1:=Oo;have i5:¬((m:Int)+1 < (m:Int)+1):=Oo;go_wp2_with fail
        go_roundw
        case rel=>
         refine⟨j+1,Oo,Gg,c7,d8,d9.congr (λa b ha _=>?_) (λ_ _=>rfl) (λ_ _=>rfl)⟩;unfold jP j8;by_cases e:b < j+1
         ·rw[if_pos e,if_pos Oo]
         ·rw[if_neg e,if_neg Oo]
        case measure=>simp[intOf];omega
   ·obtain rfl:j=n+1:=Oo;have i3:¬((n:Int)+1 < (n:Int)+1):=Oo;obtain⟨cz,e1⟩:∃cz,cz=cellsOf wr (w.heap.size+1):=⟨_,rfl⟩;have M:cz.length=350:=by rw[e1];exact xT _ _
    have i0:Hid (wr.rangeAt (w.heap.size+1) 0 cz):=by rw[e1];exact uA b0
    have K:IsSx cz.toArray m n (j8 C r c (n+1)) (Cov.pivB B r c) bar:=by rw[e1];exact Xb b0
    have i7:=hid K.one
    have g8:Hid (wr.there w.heap.size 0 cz.toArray.size):=by
     rw[show cz.toArray.size=350 by simpa using M];exact d0
    have g9:Hid ((Tryz.prog.info? 103).map (·.size)=some cz.length):=by
     show _=_;rw[M];exact vZ
    have i8:Hid ((Tryz.prog.info? 103).map (·.size)=some cz.toArray.size):=by
     show _=_;rw[show cz.toArray.size=350 by simpa using M];exact vZ
    clear e1;have j3:=hid M;clear M;go_wp2_with (first|(refine wpList_load_mid rfl 103 _ rfl (w.heap.size+1) 0 (by rfl) cz _ (by exact i0.out) Tryz.underlying103 (by rfl) (by exact g9.out) ?_)|(refine wpList_store_mid rfl 103 _ _ rfl w.heap.size 0 cz.toArray (by rfl) (by rfl) (by exact g8.out) (by exact i8.out) (by exact i7.out) ?_))
    have h0:IsSx cz.toArray m n (Cov.pivT C r c) (Cov.pivB B r c) bar:=⟨K.1,⟨K.2.rows,K.2.cols,λa b ha hb=>(K.2.num a b ha hb).trans (by unfold j8;rw[if_pos Oo]),λa b ha hb=>(K.2.den a b ha hb).trans (by unfold j8;rw[if_pos Oo]),K.2.bas,K.2.bars,K.2.one,K.2.mle,K.2.nle⟩⟩
    have i9:(wr.setCells w.heap.size 0 cz.toArray.toList).rangeAt w.heap.size 0 cz:=by
     have:=World.rangeAt_setCells_same wr w.heap.size 0 cz.toArray.toList (by have:=g8.out;simpa using this);simpa using this
    refine bodyPost_ret (v:=.agg cz.toArray) (uV Tryz.results96 _ _ w.heap.size cz _ (by rfl) i9 Tryz.underlying103 (by rfl) g9.out) rfl ⟨_,rfl,h0,zt (bK _) _ _ _ b9⟩
end Go.Proofs.YtkaipapdlnojiaaGreat
