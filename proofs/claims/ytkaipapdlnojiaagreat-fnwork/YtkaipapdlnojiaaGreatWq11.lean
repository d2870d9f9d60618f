import Derived.Deep.RegionLaw
import Derived.Test.YtkaipapdlnojiaaGreatWq10
set_option maxHeartbeats 40000000
set_option maxRecDepth 1000000
namespace Go.Proofs.YtkaipapdlnojiaaGreat
open Go.RowKit
variable {g i j m n:Nat}{B:Nat->Nat}{C:Nat->Nat->Rat}{t:TypeId}{W w w':World}
theorem qEJ{F:Nat->Value}(m n:Nat)(I:Bl w W)(O:W.there (w.heap.size+1) 0 350)(U:ArrAt W w.heap.size 3 F)(V:w.heap.size+1 < W.heap.size)(hb:Bl W w'):
 w.heap.size+1 < w'.heap.size/\Bl w ((w'.alloc (.cells Tryz.zeroCells103 t)).setCells w'.heap.size 0 (zQ m n))/\((w'.alloc (.cells Tryz.zeroCells103 t)).setCells w'.heap.size 0 (zQ m n)).there (w.heap.size+1) 0 350/\ArrAt ((w'.alloc (.cells Tryz.zeroCells103 t)).setCells w'.heap.size 0 (zQ m n)) w.heap.size 3 F/\
 (∀o,o < 350->((w'.alloc (.cells Tryz.zeroCells103 t)).setCells w'.heap.size 0 (zQ m n)).cell? ⟨w'.heap.size,o,none⟩=some (if o=0 then .int .i64 m else if o=1 then .int .i64 n else if o < 330 then .int .i64 0 else .bool false))/\∀o,o < 350->((w'.alloc (.cells Tryz.zeroCells103 t)).setCells w'.heap.size 0 (zQ m n)).frozen? ⟨w'.heap.size,o,none⟩=false:=by
 have hs:=hb.size;have K:Bl w' (w'.alloc (.cells Tryz.zeroCells103 t)):=(bM _ _).alloc (bK _) _;have M:=UL (W:=w'.alloc (.cells Tryz.zeroCells103 t)) (g:=w'.heap.size) m n (j9 w' t);refine⟨Oo,?_,?_,?_,M.1,M.2⟩
 ·exact xl (by have:=I.size;omega) _ _ _ (bt (bt I hb) K)
 ·exact World.there_setCells (qm (qm O hb) K) _ _ _
 ·exact((U.below Oo hb).alloc Oo _).move (yK _ _ _ _ _ Oo)
theorem qEK{F:Nat->Value}(m n:Nat)(I:Bl w W)(O:W.there (w.heap.size+1) 0 350)(V:ArrAt W w.heap.size 3 F)(U:w.heap.size+1 < W.heap.size)(hb:Below (W.alloc (.cells Tryz.zeroCells103 t)).heap.size (W.alloc (.cells Tryz.zeroCells103 t)) w'):
 w.heap.size+1 < W.heap.size/\Bl w (w'.setCells W.heap.size 0 (zQ m n))/\(w'.setCells W.heap.size 0 (zQ m n)).there (w.heap.size+1) 0 350/\ArrAt (w'.setCells W.heap.size 0 (zQ m n)) w.heap.size 3 F/\
 (∀o,o < 350->(w'.setCells W.heap.size 0 (zQ m n)).cell? ⟨W.heap.size,o,none⟩=some (if o=0 then .int .i64 m else if o=1 then .int .i64 n else if o < 330 then .int .i64 0 else .bool false))/\∀o,o < 350->(w'.setCells W.heap.size 0 (zQ m n)).frozen? ⟨W.heap.size,o,none⟩=false:=by
 have K:Bl W (W.alloc (.cells Tryz.zeroCells103 t)):=(bM _ _).alloc (bK _) _;have M:=UL (W:=w') (g:=W.heap.size) m n (qm (j9 W t) hb);refine⟨U,?_,?_,?_,M.1,M.2⟩
 ·exact xl (by have:=I.size;omega) _ _ _ (bt (bt I K) hb)
 ·exact World.there_setCells (qm (qm O K) hb) _ _ _
 ·exact((V.alloc Oo _).below Oo hb).move (yK _ _ _ _ _ Oo)
structure STt(w W:World)(g:Nat)(F:Nat->Value)(m n:Nat)(C:Nat->Nat->Rat)(B:Nat->Nat):Prop where
 bel:Bl w W
 out:W.there (w.heap.size+1) 0 350
 arg:ArrAt W w.heap.size 3 F
 sx:SxAt W g m n C B (λ_=>false)
 gt:w.heap.size+1 < g
theorem STt.below{W':World}{F:Nat->Value}(h:STt w W g F m n C B)(hb:Bl W W'):STt w W' g F m n C B:=
 ⟨bt h.bel hb,qm h.out hb,h.arg.below Oo hb,h.sx.below hb,h.gt⟩
theorem STt.put{F:Nat->Value}(h:STt w W g F m n C B)(hi:i<=m)(I:j<=n)(q:Rat):
 STt w ((W.setCell ⟨g,2+i*40+j*2,none⟩ (.int .i64 q.num)).setCell ⟨g,2+i*40+j*2+1,none⟩ (.int .i64 q.den)) g F m n (λa b=>if a=i/\b=j then q else C a b) B:=
 have K:=h.gt
 ⟨(h.bel.setCell (by show w.heap.size<=g;omega) _).setCell (by show w.heap.size<=g;omega) _,xF (xF h.out _ _ _) _ _ _,(h.arg.move (bE _ _ _ _ (by show w.heap.size≠g;omega))).move (bE _ _ _ _ (by show w.heap.size≠g;omega)),h.sx.setNum hi I q,K⟩
theorem STt.bas{F:Nat->Value}(h:STt w W g F m n C B)(hi:i < m)(b:Nat):
 STt w (W.setCell ⟨g,322+i,none⟩ (.int .i64 (b:Nat))) g F m n C (λa=>if a=i then b else B a):=
 have I:=h.gt
 ⟨h.bel.setCell (by show w.heap.size<=g;omega) _,xF h.out _ _ _,h.arg.move (bE _ _ _ _ (by show w.heap.size≠g;omega)),h.sx.setBas hi b,I⟩
theorem STt.congr{F:Nat->Value}{C':Nat->Nat->Rat}{B':Nat->Nat}(h:STt w W g F m n C B)(I:∀i j,i<=m->j<=n->C' i j=C i j)(hB:∀i,i < m->B' i=B i):STt w W g F m n C' B':=
 ⟨h.bel,h.out,h.arg,h.sx.congr I hB (λ_ _=>rfl),h.gt⟩
theorem STt.cells{F:Nat->Value}(h:STt w W g F m n C B)(hi:i<=m)(I:j<=n):
 W.cell? ⟨g,2+i*40+j*2,none⟩=some (.int .i64 (C i j).num)/\W.cell? ⟨g,2+i*40+j*2+1,none⟩=some (.int .i64 (C i j).den)/\W.frozen? ⟨g,2+i*40+j*2,none⟩=false/\W.frozen? ⟨g,2+i*40+j*2+1,none⟩=false:=by
 have K:=h.sx.lay.mle;have M:=h.sx.lay.nle;exact⟨h.sx.lay.num i j hi I,h.sx.lay.den i j hi I,h.sx.free _ Oo,h.sx.free _ Oo⟩
theorem Zs{z:Nat}(K:z=n - m+i)(a:Nat):(if a < i+1 then n - m+a else 0)=if a=i then z else if a < i then n - m+a else 0:=by
 by_cases e:a=i
 ·rw[if_pos Oo,if_pos e];omega
 ·rw[if_neg e];by_cases I:a < i
  ·rw[if_pos Oo,if_pos I]
  ·rw[if_neg Oo,if_neg I]
theorem wrap_small(n:Nat)(h:n < 9223372036854775808):IntKind.i64.wrap (n:Int)=(n:Int):=by
 simp[IntKind.wrap,IntKind.bits,IntKind.signed];omega
end Go.Proofs.YtkaipapdlnojiaaGreat
