import Derived.Deep.CutBlock
import Derived.Test.YtkaipapdlnojiaaGreatWq19
set_option maxHeartbeats 40000000
set_option maxRecDepth 1000000
namespace Go.Proofs.YtkaipapdlnojiaaGreat
open Go.RowKit
variable {c i j k n r:Nat}{R:Nat->Nat->Rat}{t:TypeId}
theorem Tryz.infoRS:(Tryz.prog.info? 26).map (λi=>(i.zero,i.size,i.bytes))=some (some (.slice none 0 0),1,24):=by kernel_rfl
theorem wTk{P:Program}{ops:Array Oper}{Q:Exit->Act->World->Prop}{K:Region.Mode}{S:World->Prop}(i:Nat){M:Oper}{v:Value}{fuel:Nat}{I:Array Bool}{a:Act}{w:World}(h:wpAnyH P K ops Q S fuel (I.setIfInBounds i true) (a.put M.dst v) w)(hi:ops[i]?=some M:=by exact rfl)(hs:Region.noSelect ops=true:=by kernel_rfl)(U:Region.free K ops I i=true:=by kernel_rfl)(hr:(Region.ready K ops I).contains i=true:=by kernel_rfl)(V:∀c a w,Q (.panic c) (a.put M.dst v) w->Q (.panic c) a w:=by exact λ_ _ _ h=>h)(hy:YieldsIf P ops S M v a:=by refine Or.inl ⟨by rfl,?_⟩;(intro w O;(try dsimp only at O);go_simp) <;> with_reducible rfl)(hS:S w:=by assumption):wpAnyH P K ops Q S (fuel+1) I a w:=wpAnyH_take hi hs U hr V hy hS h
def qEw(n:Nat)(L:List Dem)(e:Ending)(w':World):Prop:=
 (e=.returned (.tuple #[.slice none 0 0,.bool false])/\¬Cov.Kern n (L.map Dem.dm))∨
 ∃v x,e=.returned (.tuple #[v,.bool true])/\IR w' v (prs n x)/\Parts n x/\YC n L x/\Cov.Kern n (L.map Dem.dm)
def yM(pl:List Nat)(j:Nat):Nat->Rat:=λi=>if i∈pl.take j then 1 else 0
theorem qBH{pl:List Nat}(h:j < pl.length):(λi=>if i=pl.getD j 0 then (1:Rat) else yM pl j i)=yM pl (j+1):=by
 funext i;unfold yM;by_cases e:i=pl.getD j 0
 ·rw[if_pos e,if_pos ((y6 pl j h i).2 (Or.inr e))]
 ·rw[if_neg e];by_cases I:i∈pl.take j
  ·rw[if_pos I,if_pos ((y6 pl j h i).2 (Or.inl I))]
  ·rw[if_neg I,if_neg (λM=>by rcases (y6 pl j h i).1 M with K|K;exact I K;exact e K)]
theorem qDh{L:List Dem}{d:Dem}(I:L.getD k yQ=d):∀j,j<=n->(λi=>if i=n then ((d.bd:Int):Rat) else yM d.pl d.pl.length i) j=zN n L k j:=by
 intro j K;unfold zN yM;rw[I,tL]
def vF(R:Nat->Nat->Rat)(c r:Nat):Nat->Nat->Rat:=λi k=>if i < r then Cov.elim R c i k else R i k
def yo(R:Nat->Nat->Rat)(c r j:Nat):Nat->Nat->Rat:=λi k=>if i < r∨(i=r/\k < j) then Cov.elim R c i k else R i k
theorem qCR(R:Nat->Nat->Rat)(c i k:Nat):R i k=vF R c 0 i k:=(if_neg Oo).symm
theorem Yv(h:r=c∨R r c=0)(i k:Nat):vF R c r i k=vF R c (r+1) i k:=by
 unfold vF;by_cases e:i=r
 ·subst e;rw[if_neg Oo,if_pos Oo];unfold Cov.elim;rw[if_pos (by rcases h with h|h;exact Or.inl h;exact Or.inr (Or.inl h))]
 ·by_cases I:i < r
  ·rw[if_pos I,if_pos Oo]
  ·rw[if_neg I,if_neg Oo]
theorem qBI(R:Nat->Nat->Rat)(c r i k:Nat):vF R c r i k=yo R c r c i k:=by
 unfold vF yo;by_cases e:i < r
 ·rw[if_pos e,if_pos (Or.inl e)]
 ·rw[if_neg e];by_cases I:i=r/\k < c
  ·rw[if_pos (Or.inr I)];unfold Cov.elim;rw[if_pos (Or.inr (Or.inr I.2))]
  ·rw[if_neg (λh=>by rcases h with h|h;exact e h;exact I h)]
theorem qCS(K:r≠c)(M:R r c≠0)(U:c<=j)(i k:Nat):(if i=r/\k=j then R r j - R r c / R c c*R c j else yo R c r j i k)=yo R c r (j+1) i k:=by
 unfold yo;by_cases e:i=r/\k=j
 ·rw[if_pos e,if_pos (Or.inr ⟨e.1,Oo⟩)];unfold Cov.elim;rw[e.1,e.2,if_neg (λh=>by rcases h with h|h|h;exact K h;exact M h;omega)]
 ·rw[if_neg e];by_cases I:i < r∨(i=r/\k < j)
  ·rw[if_pos I,if_pos (by rcases I with h|h;exact Or.inl h;exact Or.inr ⟨h.1,Oo⟩)]
  ·rw[if_neg I,if_neg (λh=>by
    rcases h with h|h
    ·exact I (Or.inl h)
    ·by_cases O:k=j
     ·exact e ⟨h.1,O⟩
     ·exact I (Or.inr ⟨h.1,Oo⟩))]
theorem qDi(K:k<=n):yo R c r (n+1) i k=vF R c (r+1) i k:=by
 unfold yo vF;by_cases e:i < r+1
 ·rw[if_pos e,if_pos (by by_cases I:i < r;exact Or.inl I;exact Or.inr ⟨Oo,Oo⟩)]
 ·rw[if_neg e,if_neg (λh=>by rcases h with h|h <;> omega)]
theorem JL(R:Nat->Nat->Rat)(c r j k:Nat):yo R c r j c k=R c k:=by
 unfold yo;split
 ·unfold Cov.elim;rw[if_pos (Or.inl rfl)]
 ·rfl
theorem qDj(R:Nat->Nat->Rat)(c r j:Nat):yo R c r j r j=R r j:=if_neg (λh=>by rcases h with h|h <;> omega)
theorem JM(R:Nat->Nat->Rat)(c r k:Nat):vF R c r c k=R c k:=by
 unfold vF;split
 ·unfold Cov.elim;rw[if_pos (Or.inl rfl)]
 ·rfl
theorem ZU(R:Nat->Nat->Rat)(c r k:Nat):vF R c r r k=R r k:=if_neg Oo
theorem JO{p:Nat}(I:c < n)(hp:p < n)(hi:i < n):∃k,k < n/\Cov.swpR R c p i=R k:=by
 unfold Cov.swpR;split
 ·exact⟨p,hp,rfl⟩
 ·split
  ·exact⟨c,I,rfl⟩
  ·exact⟨i,hi,rfl⟩
theorem YB(R:Nat->Nat->Rat)(c p:Nat):Cov.swpR R c p c=R p:=if_pos rfl
theorem qDk(k:Nat)(x:Nat->Rat):prs (k+1) x=prs k x++[((x k).num,((x k).den:Int))]:=by
 unfold prs;rw[List.range_succ,mA];rfl
theorem ui(k:Nat)(x:Nat->Rat):rcs (prs (k+1) x)=rcs (prs k x)++[.int .i64 (x k).num,.int .i64 (x k).den]:=by
 rw[qDk];simp[rcs]
section
variable {w W5 w6:World} {G n:Nat} {g cp:Nat->Nat} {R:Nat->Nat->Rat}
theorem uk{o:Obj}(h:Below (W5.alloc o).drew.heap.size (W5.alloc o).drew w6):Bl W5 w6:=
 bt ((bM _ _).alloc (bK _) o) (qQ h)
theorem JP{x y:Int}(h:Below (W5.alloc (.cells #[.int .i64 x,.int .i64 y] t)).drew.heap.size (W5.alloc (.cells #[.int .i64 x,.int .i64 y] t)).drew w6):Two w6 W5.heap.size x y:=
 (vi W5 x y t).below Ss (qQ h)
theorem qCT(K:Bl w W5)(M:Mat W5 w.heap.size G n g cp R)(I:Bl W5 w6)(x y:Int)(t:TypeId):
 Bl w (w6.alloc (.cells #[.int .i64 x,.int .i64 y] t))/\Mat (w6.alloc (.cells #[.int .i64 x,.int .i64 y] t)) w.heap.size G n g cp R/\Two (w6.alloc (.cells #[.int .i64 x,.int .i64 y] t)) w6.heap.size x y/\(∀i,i < n->g i≠w6.heap.size)/\w.heap.size<=w6.heap.size:=by
 have O:=bt K I;have U:=M.below I;exact⟨O.alloc O.size _,U.below ((bM _ _).alloc (bK _) _),vi w6 x y t,λi hi e=>by have:=(U.row i hi).lt;omega,O.size⟩
theorem qBJ(I:Bl w W5)(K:Mat W5 w.heap.size G n g cp R){a b:Int}(h:Below (W5.alloc (.cells #[.int .i64 a,.int .i64 b] t)).drew.heap.size (W5.alloc (.cells #[.int .i64 a,.int .i64 b] t)).drew w6)(x y:Int):
 Bl w ((w6.setCell ⟨W5.heap.size,0,none⟩ (.int .i64 x)).setCell ⟨W5.heap.size,1,none⟩ (.int .i64 y))/\Mat ((w6.setCell ⟨W5.heap.size,0,none⟩ (.int .i64 x)).setCell ⟨W5.heap.size,1,none⟩ (.int .i64 y)) w.heap.size G n g cp R/\Two ((w6.setCell ⟨W5.heap.size,0,none⟩ (.int .i64 x)).setCell ⟨W5.heap.size,1,none⟩ (.int .i64 y)) W5.heap.size x y/\(∀i,i < n->g i≠W5.heap.size)/\w.heap.size<=W5.heap.size:=by
 have M:=uk h;have O:=bt I M;have U:Mat ((w6.setCell ⟨W5.heap.size,0,none⟩ (.int .i64 x)).setCell ⟨W5.heap.size,1,none⟩ (.int .i64 y)) w.heap.size G n g cp R:=K.below ((M.setCell (bK _) _).setCell (bK _) _);have hs:=I.size;exact⟨(O.setCell hs _).setCell hs _,U,(JP h).set x y,λi hi e=>by have:=(K.row i hi).lt;omega,hs⟩
theorem Yw{O I:World}{gf:Nat}{Q:Nat->Nat->Rat}{f z:Rat}(a2:Bl w O)(a3:Mat O w.heap.size G n g cp (yo Q c r j))(U:Two O gf f.num f.den)(K:Bl O I)(M:r < n)(a4:∀i,i < n->g i≠gf)(a5:r≠c)(a6:Q r c≠0)(a7:c<=j)(hz:z=Q r j - Q r c / Q c c*Q c j):
 Bl w ((I.setCell ⟨g r,j*2,none⟩ (.int .i64 z.num)).setCell ⟨g r,j*2+1,none⟩ (.int .i64 z.den))/\Mat ((I.setCell ⟨g r,j*2,none⟩ (.int .i64 z.num)).setCell ⟨g r,j*2+1,none⟩ (.int .i64 z.den)) w.heap.size G n g cp (yo Q c r (j+1))/\Two ((I.setCell ⟨g r,j*2,none⟩ (.int .i64 z.num)).setCell ⟨g r,j*2+1,none⟩ (.int .i64 z.den)) gf f.num f.den:=by
 have V:=a3.below K;have hb:=V.base.2 r M;refine⟨((bt a2 K).setCell hb _).setCell hb _,(V.set M j z).congr (λi _ k _=>?_),?_⟩
 ·rw[hz];exact qCS a5 a6 a7 i k
 ·have ht:=U.below (bL O _ U.1) K;have hg:gf≠g r:=λe=>a4 r M e.symm;have hq:((I.setCell ⟨g r,j*2,none⟩ (.int .i64 z.num)).setCell ⟨g r,j*2+1,none⟩ (.int .i64 z.den)).heap[gf]?=I.heap[gf]?:=(bE _ _ _ _ hg).trans (bE _ _ _ _ hg);exact⟨(bF (w:=I) (a:=⟨gf,0,none⟩) hq).trans ht.1,(bF (w:=I) (a:=⟨gf,1,none⟩) hq).trans ht.2.1,(World.frozen?_of_block (w:=I) (a:=⟨gf,0,none⟩) hq).trans ht.2.2.1,(World.frozen?_of_block (w:=I) (a:=⟨gf,1,none⟩) hq).trans ht.2.2.2⟩
end
theorem qCU(w:World)(v u:Value)(t:TypeId):∀j x,[v,u][j]?=some x->(w.alloc (.cells #[v,u] t)).cell? ((⟨w.heap.size,0,none⟩:Addr).add j)=some x:=by
 intro j x I;match j,I with
 |0,I=>simp at I;subst I;simp[Addr.add]
 |1,I=>simp at I;subst I;simp[Addr.add]
theorem kg(w:World)(vc:Value)(n:Nat)(ps:List (Value×Dem))(u6:1<=n)(hn:n<=7)(hl:ps.length=n)(hc:DP w vc ps)(h9:∀p∈ps,zR n p.2):
 Cl 44 #[.int .i64 n,vc] w λe w'=>qEw n (ps.map Prod.snd) e w'/\Bl w w':=by
 obtain⟨i0,hi,U,s3,s4⟩:=info_parts Tryz.infoRS;obtain⟨L,hL⟩:∃L,L=ps.map Prod.snd:=⟨_,rfl⟩;rw[<-hL]
 have KZ:Hid (∀W,Cl 17 #[.int .i64 ((n:Int)+1)] W λe w'=>∃v,e=.returned v/\w'.ownsRow W.heap.size 28 2 v (n+1) (zs (n+1))/\Bl W w'):=hid (λW=>by
  have:=kh W (n+1) Oo;rw[show((n+1:Nat):Int)=(n:Int)+1 by omega]at this;exact this)
 obtain⟨⟨a,cap,rfl,d8⟩,d9⟩:=hc
 have f8:∃b o,a=some ⟨b,o,none⟩/\∀j u,(dcs ps)[j]?=some u->w.cell? ⟨b,o+j,none⟩=some u:=by
  rcases d8 with h0|h
  ·omega
  ·exact h
 obtain⟨b,o,rfl,f9⟩:=f8
 have o2:Hid (∀k,k < n->∃u d,L.getD k yQ=d/\zR n d/\IntsAt w u d.pl/\w.cell? ⟨b,o+k*3,none⟩=some u/\w.cell? ⟨b,o+k*3+1,none⟩=some (.bool d.up)/\w.cell? ⟨b,o+k*3+2,none⟩=some (.int .i64 d.bd)):=hid (λk hk=>by
  have hm:ps.getD k pd0∈ps:=zo Oo;obtain⟨h1,h2,h3⟩:=Qe ps k Oo;exact⟨(ps.getD k pd0).1,(ps.getD k pd0).2,by rw[hL];exact jQ ps k,h9 _ hm,d9 _ hm,f9 _ _ h1,f9 _ _ h2,f9 _ _ h3⟩)
 have c9:Hid (L.length=n/\∀D∈L,zR n D):=hid ⟨by rw[hL,lM];exact hl,λD hD=>by
  rw[hL]at hD;obtain⟨p,hp,rfl⟩:=List.mem_map.1 hD;exact h9 p hp⟩
 rw[hl];clear d8 f9 d9 h9 hL hl;go_enter Tryz.func44,Tryz.ntmps44
 go_wp2;go_loopw [6,23] (λv t wr=>∃(k:Nat) (vr:Value),k<=n/\t=.int .i64 k/\vr=v/\Hid (Bl w wr/\∃vs g cp,Rws wr w.heap.size n k vr vs g cp (zN n L))) (λ_ t _=>n - (intOf t).toNat)
 case atStart=>exact⟨0,_,nZ _,rfl,rfl,hid ⟨(bM _ _).alloc (bK _) _,[],λ_=>0,λ_=>0,oM w #[] 0 (bK _) Dd rfl,rfl,λi hi=>Oo,λi hi=>Oo,λi hi=>Oo,λi hi=>Oo⟩⟩
 case round=>
  obtain⟨k,vr,hk,rfl,rfl,I⟩:=hrel;obtain⟨b0,vs,g,cp,hR⟩:=I.out;have e0:=hid b0;have HR:=hid hR;by_cases s5:k < n
  ·have i1:(k:Int) < (n:Int):=Oo;obtain⟨u,d,hd,g2,hu,e1,e2,e3⟩:=o2.out k s5;have c1:=(b0.cell (p:=⟨b,o+k*3,none⟩) (bL w _ e1)).trans e1;have c2:=(b0.cell (p:=⟨b,o+k*3+1,none⟩) (bL w _ e2)).trans e2;have c3:=(b0.cell (p:=⟨b,o+k*3+2,none⟩) (bL w _ e3)).trans e3;have HD:=hid hd;have s6:=hid g2;have HU:=hid hu;obtain⟨au,cu,rfl,o4⟩:=hu;have s7:=hid o4;obtain⟨m,hm⟩:∃m,m=d.pl.length:=⟨_,rfl⟩;have HM:=hid hm;have u9:m<=7:=by rw[hm];exact g2.len
   have v3:-1<=d.bd/\d.bd<=1:=by rcases g2.bd with h|h <;> omega
   rw[<-hm]at c1;clear hd g2 e1 e2 e3 o4 hm b0 hR I HU;go_upto_region 6 with (first|(go_at_call 17;refine(KZ.out _).mono ?_;rintro e w1 ⟨v1,rfl,e7,j1⟩))
   obtain⟨c,cc,rfl,s8,s9,h7⟩:=qDR e7;have o5:ArrAt (wr.alloc (.cells #[.slice au m cu,.bool d.up,.int .i64 d.bd] 53)) wr.heap.size 3 (f3 (.slice au m cu) (.bool d.up) (.int .i64 d.bd)):=qz wr 3 (f3 (.slice au m cu) (.bool d.up) (.int .i64 d.bd)) 53;have g4:=o5.below Oo j1;have j2:Bl wr w1:=bt ((bM _ _).alloc (bK _) _) j1;have o6:=HR.out.below j2
   have o7:∀i,i < k->g i≠c:=λi hi e=>by
    have:=(HR.out.row i hi).lt;have h2:wr.heap.size < (wr.alloc (.cells #[.slice au m cu,.bool d.up,.int .i64 d.bd] 53)).heap.size:=Ss;omega
   have j3:wr.heap.size≠c:=λe=>by
    have h2:wr.heap.size < (wr.alloc (.cells #[.slice au m cu,.bool d.up,.int .i64 d.bd] 53)).heap.size:=Ss;omega
   have e8:w.heap.size<=c:=by
    have h2:wr.heap.size < (wr.alloc (.cells #[.slice au m cu,.bool d.up,.int .i64 d.bd] 53)).heap.size:=Ss;have:=e0.out.size;omega
   have o8:=bt e0.out j2;obtain⟨gd,o9⟩:∃gd,gd=wr.heap.size:=⟨_,rfl⟩;rw[<-o9]at g4 j3 ⊢
   have HX:Hid (Bl w w1/\Rws w1 w.heap.size n k vr vs g cp (zN n L)/\ArrAt w1 gd 3 (f3 (.slice au m cu) (.bool d.up) (.int .i64 d.bd))/\RowAt w1 c n (yM d.pl 0)):=hid ⟨o8,o6,g4,by
    have:yM d.pl 0=λ_=>0:=by funext i;unfold yM;rw[List.take_zero,if_neg Ss]
    rw[this];exact h7⟩
   have c7:=hid o7;obtain⟨p0,p1,p2⟩:=g4.three;clear e7 j1 o5 g4 j2 o6 o7 o8 h7 s8 s9 o9 HR e0 c1 c2 c3;go_wp2;go_loopw [33] (λt wr=>∃j:Nat,j<=m/\t=.int .i64 j/\Hid (Bl w wr/\Rws wr w.heap.size n k vr vs g cp (zN n L)/\ArrAt wr gd 3 (f3 (.slice au m cu) (.bool d.up) (.int .i64 d.bd))/\RowAt wr c n (yM d.pl j))) (λt _=>m - (intOf t).toNat)
   case atStart=>exact⟨0,nZ _,rfl,HX⟩
   case round=>
    obtain⟨j,hj,rfl,I⟩:=hrel;clear HX p0 p1 p2;by_cases p3:j < m
    ·have i2:(j:Int) < (m:Int):=Oo;obtain⟨b3,o3,rfl,hy⟩:=s7.out j (by rw[<-HM.out];exact p3);have g5:j < d.pl.length:=by rw[<-HM.out];exact p3
     have h8:d.pl.getD j 0∈d.pl:=zo g5;have t0:=s6.out.lt _ h8;have HS:Hid ((λi=>if i=d.pl.getD j 0 then (1:Rat) else yM d.pl j i)=yM d.pl (j+1)):=hid (qBH g5);have y1:=(I.out.1.cell (p:=⟨b3,o3+j,none⟩) (bL w _ hy)).trans hy;obtain⟨q,hq⟩:∃q,q=d.pl.getD j 0:=⟨_,rfl⟩;rw[<-hq]at t0 HS y1;have i3:(q:Int) < (n:Int)+1:=Oo;have f1:=RwIs.free I.out.2.2.2 (q*2);have f2:=RwIs.free I.out.2.2.2 (q*2+1);have t1:=I.out.2.2.2.num (j:=q) Oo;have t2:=I.out.2.2.2.den (j:=q) Oo
     have HF:Hid (∀W',W'=(wr.setCell ⟨c,q*2,none⟩ (.int .i64 1)).setCell ⟨c,q*2+1,none⟩ (.int .i64 1)->Bl w W'/\Rws W' w.heap.size n k vr vs g cp (zN n L)/\ArrAt W' gd 3 (f3 (.slice (some ⟨b3,o3,none⟩) m cu) (.bool d.up) (.int .i64 d.bd))/\RowAt W' c n (yM d.pl (j+1))):=hid (λW' e=>by
      subst e;obtain⟨h1,h2,h3,h4⟩:=I.out;refine⟨(h1.setCell e8 _).setCell e8 _,(h2.other h4 c7.out _ _).other (RwIs.set h4 _ _) c7.out _ _,(h3.move (bE _ _ _ _ j3)).move (bE _ _ _ _ j3),?_⟩;rw[<-HS.out];exact h4.set q 1)
     clear hy hq h8 g5 I;go_wp2;go_roundw
     case rel=>exact⟨j+1,Oo,Gg,hid (HF.out _ rfl)⟩
     case measure=>simp[intOf];omega
    ·obtain rfl:j=m:=Oo;have i2:¬((j:Int) < (j:Int)):=Oo;have i3:(n:Int) < (n:Int)+1:=Oo;obtain⟨p0,p1,p2⟩:=I.out.2.2.1.three;have f1:=RwIs.free I.out.2.2.2 (n*2);have f2:=RwIs.free I.out.2.2.2 (n*2+1);have t1:=I.out.2.2.2.num (j:=n) Oo;have t2:=I.out.2.2.2.den (j:=n) Oo
     have HF:Hid (∀W',W'=(wr.setCell ⟨c,n*2,none⟩ (.int .i64 d.bd)).setCell ⟨c,n*2+1,none⟩ (.int .i64 1)->Bl w W'/\Rws W' w.heap.size n k vr vs g cp (zN n L)/\∃r,RowAt W' c n r/\∀j,j<=n->r j=zN n L k j):=hid (λW' e=>by
      subst e;obtain⟨h1,h2,h3,h4⟩:=I.out;refine⟨(h1.setCell e8 _).setCell e8 _,(h2.other h4 c7.out _ _).other (RwIs.set h4 _ _) c7.out _ _,_,h4.set n (((d.bd:Int):Rat)),?_⟩;rw[HM.out];exact qDh HD.out)
     clear I;go_upto_region 12 with fail
     obtain⟨W',j4⟩:∃W',W'=(wr.setCell ⟨c,n*2,none⟩ (.int .i64 d.bd)).setCell ⟨c,n*2+1,none⟩ (.int .i64 1):=⟨_,rfl⟩;obtain⟨h1,h2,r,h4,h5⟩:=HF.out _ j4;rw[<-j4];clear j4 HF p0 p1 p2 f1 f2 t1 t2;have a8:=h2.own
     go_wp2_with (first
      |(at_builtin;refine wpList_append_own _ rfl _ _ 135 rfl w.heap.size 26 i0 (.slice none 0 0) 1 24 Tryz.underlying135 hi U s3 s4 rfl Dd _ _ _ rfl (a8.alloc _) ⟨W'.heap.size,0,none⟩ 1 1 [.slice (some ⟨c,0,none⟩) (n+1) cc] rfl rfl ?c1 ?c2 ?c3 ?c4 ?c5 ?_))
     case c2=>rfl
     case c3=>unfold maxLen;omega
     case c4=>omega
     case c5=>have:=h1.size;simp;omega
     intro v' w3 e9 a2 _;have p4:=h2.step h4 e8 c7.out h5 e9 a2;have p5:=qe h1.size h2.own h1 a2;have HF:Hid (Bl w w3/\∃vs g cp,Rws w3 w.heap.size n (k+1) v' vs g cp (zN n L)):=hid ⟨p5,_,_,_,p4⟩;clear p4 p5 a8 e9 a2 h1 h2 h4 h5;go_wp2;go_roundw
     case rel=>exact⟨k+1,_,Oo,Gg,rfl,HF⟩
     case measure=>simp[intOf];omega
  ·obtain rfl:n=k:=Oo;have i1:¬((n:Int) < (n:Int)):=Oo;obtain⟨G,cG,t3,p6⟩:=HR.out.mat Oo;subst t3;have p7:Hid (Bl w wr/\∃g cp R T B s piv,Mat wr w.heap.size G n g cp R/\Cov.GJ n 0 (zN n L) R T B s piv):=hid ⟨e0.out,g,cp,_,_,_,_,_,p6,Cov.gj_start n _⟩;have HW:Hid (∀j,j<=n->∀r,r < n->Cov.Whole 1 (zN n L r j)):=hid (λj _ r hr=>Ke c9.out.2 (by rw[c9.out.1];exact hr));clear p6 HR e0 I b0 hR KZ o2;go_wp2;go_loopw [12] (λt wr=>∃c:Nat,c<=n/\t=.int .i64 c/\Hid (Bl w wr/\∃g cp R T B s piv,Mat wr w.heap.size G n g cp R/\Cov.GJ n c (zN n L) R T B s piv)) (λt _=>n - (intOf t).toNat)
   case atStart=>exact⟨0,nZ _,rfl,p7⟩
   case round=>
    clear p7 g cp vs;obtain⟨c,hc,rfl,I⟩:=hrel;obtain⟨b0,g,cp,R,T,B,s,piv,hM,hJ⟩:=I.out;generalize wr=W3 at *;have HB:=hid b0;have HM:=hid hM;have HJ:=hid hJ;clear b0 hM hJ I;by_cases M:c < n
    ·have i2:(c:Int) < (n:Int):=Oo;have i4:(c:Int) < (n:Int)+1:=Oo;go_wp2;go_loopw [13] (λt wr=>∃p:Nat,c<=p/\p<=n/\t=.int .i64 p/\Hid (wr=W3/\∀q,c<=q->q < p->R q c=0)) (λt _=>n - (intOf t).toNat)
     case atStart=>exact⟨c,bK _,hc,rfl,hid ⟨rfl,λq h1 h2=>Oo⟩⟩
     case round=>
      obtain⟨p,j5,v4,rfl,hP⟩:=hrel;obtain rfl:W3=wr:=hP.out.1.symm;have HZ:=hid hP.out.2;clear hP;by_cases c8:p < n
      ·have i3:(p:Int) < (n:Int):=Oo;have e1:=HM.out.head c8;have e2:=(HM.out.row p c8).num (j:=c) Oo;by_cases U:R p c=0
       ·have V:(R p c).num=0:=by rw[U];rfl
        rw[V]at e2;have d6:=hid U;clear V U;go_wp2;go_roundw
        case rel=>exact⟨p+1,Oo,Oo,Gg,hid ⟨by trivial,λq h1 h2=>by
         by_cases e:q=p
         ·rw[e];exact d6.out
         ·exact HZ.out q h1 Oo⟩⟩
        case measure=>simp[intOf];omega
       ·have V:¬(R p c).num=0:=ks U;have j6:((R p c).num == 0)=false:=by simp[V]
        have i5:¬((p:Int)=(n:Int)):=Oo;have i6:((p:Int) == (n:Int))=false:=by simp;omega
        have e3:=HM.out.head M;obtain⟨u4,e4⟩:∃u,(W3.setCell ⟨G,p,none⟩ (.slice (some ⟨g c,0,none⟩) (n+1) (cp c))).cell? ⟨G,c,none⟩=some u:=⟨_,(HM.out.top.set p _).cell M⟩;have f1:=HM.out.top.free p;have f2:=HM.out.top.free c;have p8:=HM.out.swap M c8;have p9:Bl w ((W3.setCell ⟨G,p,none⟩ (.slice (some ⟨g c,0,none⟩) (n+1) (cp c))).setCell ⟨G,c,none⟩ (.slice (some ⟨g p,0,none⟩) (n+1) (cp p))):=(HB.out.setCell HM.out.base.1 _).setCell HM.out.base.1 _
        have q0:∀i,i < n->∀j,j<=n->Sm 25401600 (Cov.swpR R c p i j):=λi hi j hj=>by
         obtain⟨k,hk,e⟩:=JO (R:=R) M c8 hi;rw[e];exact qCX HJ.out HW.out hn hk hj
        have q1:∀j,j<=n->Sm 5040 (Cov.swpR R c p c j):=λj hj=>by
         rw[YB];exact qCW HJ.out HW.out hn j5 c8 hj
        have q3:∀i,i < n->Sm 25401600 (Cov.swpR R c p i c / Cov.swpR R c p c c):=λi hi=>by
         obtain⟨k,hk,e⟩:=JO (R:=R) M c8 hi;rw[e,YB];exact qGE HJ.out HW.out hn j5 c8 U hk
        have q4:Cov.swpR R c p c c≠0:=by rw[YB];exact U
        have q6:=Cov.gj_step HJ.out HW.out j5 c8 U;have k0:=hid q0;have g6:=hid q1;have l0:=hid q3;have q7:=hid q4;have q8:=hid q6;have q9:=hid p8;have r0:=hid p9;clear q0 q1 q3 q4 q6 p8 p9 U;go_upto_region 25 with fail
        generalize (W3.setCell ⟨G,p,none⟩ (.slice (some ⟨g c,0,none⟩) (n+1) (cp c))).setCell ⟨G,c,none⟩ (.slice (some ⟨g p,0,none⟩) (n+1) (cp p))=W4 at *;generalize Cov.swpR R c p=Q at *;generalize Cov.swp g c p=g' at *;generalize Cov.swp cp c p=cp' at *;clear e1 e2 e3 e4 f1 f2 HM HB HZ V j6 HJ;go_wp2;go_loopw [95] (λt wr=>∃r:Nat,r<=n/\t=.int .i64 r/\Hid (Bl w wr/\Mat wr w.heap.size G n g' cp' (vF Q c r))) (λt _=>n - (intOf t).toNat)
        case atStart=>exact⟨0,nZ _,rfl,hid ⟨r0.out,q9.out.congr (λi _ j _=>qCR Q c i j)⟩⟩
        case round=>
         clear q9 r0;obtain⟨r,hr,rfl,I⟩:=hrel;by_cases O:r < n
         ·have i7:(r:Int) < (n:Int):=Oo;generalize wr=W5 at *;by_cases l7:r=c
          ·subst l7;have HX:=I;clear I;go_wp2;go_roundw
           case rel=>exact⟨r+1,Oo,Gg,hid ⟨HX.out.1,HX.out.2.congr (λi _ j _=>Yv (Or.inl rfl) i j)⟩⟩
           case measure=>simp[intOf];omega
          ·have i8:¬((r:Int)=(c:Int)):=Oo;have i9:((r:Int) == (c:Int))=false:=by simp;omega
           have g7:=hid I.out.1;have b7:=hid I.out.2;have e1:=I.out.2.head O;have e2:=(I.out.2.row r O).num (j:=c) Oo;rw[ZU]at e2;clear I;by_cases U:Q r c=0
           ·have V:(Q r c).num=0:=by rw[U];rfl
            rw[V]at e2;have d6:=hid U;clear V U;go_wp2;go_roundw
            case rel=>exact⟨r+1,Oo,Gg,hid ⟨g7.out,b7.out.congr (λi _ j _=>Yv (Or.inr d6.out) i j)⟩⟩
            case measure=>simp[intOf];omega
           ·have V:¬(Q r c).num=0:=ks U;have j6:((Q r c).num == 0)=false:=by simp[V]
            have d6:=hid U;have e3:=b7.out.head M;have e4:=(b7.out.row r O).den (j:=c) Oo;have e5:=(b7.out.row c M).num (j:=c) Oo;have e6:=(b7.out.row c M).den (j:=c) Oo;rw[ZU]at e4;rw[JM]at e5 e6;have KO:Hid (∀W,Cl 77 #[.agg #[.int .i64 (Q r c).num,.int .i64 (Q r c).den],.agg #[.int .i64 (Q c c).num,.int .i64 (Q c c).den]] W λe w'=>e=.returned (.agg #[.int .i64 (Q r c / Q c c).num,.int .i64 (Q r c / Q c c).den])/\Bl W w'):=hid (λW=>qCb _ _ W (k0.out r O c Oo) (g6.out c Oo) Dd q7.out);obtain⟨f,hf⟩:∃f,f=Q r c / Q c c:=⟨_,rfl⟩;rw[<-hf]at KO;have HF:=hid hf;clear hf U;go_upto_region 29 with fail
            go_cut [16] (λv wx=>∃gf,v=.pointer (some ⟨gf,0,none⟩)/\Hid (Bl w wx/\Mat wx w.heap.size G n g' cp' (vF Q c r)/\Two wx gf f.num f.den/\(∀i,i < n->g' i≠gf)/\w.heap.size<=gf))
            case first=>
             have FX:Hid (∀W,Bl W5 W->W.cell? ⟨G,r,none⟩=some (.slice (some ⟨g' r,0,none⟩) (n+1) (cp' r))/\W.cell? ⟨G,c,none⟩=some (.slice (some ⟨g' c,0,none⟩) (n+1) (cp' c))/\W.cell? ⟨g' r,c*2,none⟩=some (.int .i64 (Q r c).num)/\W.cell? ⟨g' r,c*2+1,none⟩=some (.int .i64 (Q r c).den)/\W.cell? ⟨g' c,c*2,none⟩=some (.int .i64 (Q c c).num)/\W.cell? ⟨g' c,c*2+1,none⟩=some (.int .i64 (Q c c).den)):=hid (λW hW=>by
              have h:=b7.out.below hW;have a4:=(h.row r O).num (j:=c) Oo;have a5:=(h.row r O).den (j:=c) Oo;have a6:=(h.row c M).num (j:=c) Oo;have a7:=(h.row c M).den (j:=c) Oo;rw[ZU]at a4 a5;rw[JM]at a6 a7;exact⟨h.head O,h.head M,a4,a5,a6,a7⟩)
             obtain⟨l1,l2,l3,l4,l5,l6⟩:=FX.out (W5.alloc (.cells #[.int .i64 0,.int .i64 0] 28)) ((bM _ _).alloc (bK _) _)
             go_region_law (first
              |(go_simp;go_at_call 77;refine(KO.out _).mono ?_;rintro e w6 ⟨rfl,f4⟩;have a9:Bl W5 w6:=qQ f4;obtain⟨k1,k2,k3,k4,k5,k6⟩:=FX.out w6 a9)
              |(go_simp;go_at_call 77;refine(KO.out _).mono ?_;rintro e w6 ⟨rfl,f4⟩;have a9:Bl W5 w6:=uk f4;obtain⟨z1,z2,z3,z4⟩:=JP f4;obtain⟨k1,k2,k3,k4,k5,k6⟩:=FX.out w6 a9))
             all_goals
              go_wp2_with fail
              go_meet
              first
               |exact⟨_,rfl,hid (qCT g7.out b7.out a9 _ _ _)⟩
               |exact⟨_,rfl,hid (qBJ g7.out b7.out f4 _ _)⟩
            case rest=>
             obtain⟨gf,rfl,hX⟩:=hcut;clear e1 e2 e3 e4 e5 e6 KO b7 g7 V j6;generalize wc=W6 at *;go_wp2;go_loopw [17] (λt wr=>∃j:Nat,c<=j/\j<=n+1/\t=.int .i64 j/\Hid (Bl w wr/\Mat wr w.heap.size G n g' cp' (yo Q c r j)/\Two wr gf f.num f.den)) (λt _=>n+1 - (intOf t).toNat)
             case atStart=>exact⟨c,bK _,Oo,rfl,hid ⟨hX.out.1,hX.out.2.1.congr (λi _ j _=>qBI Q c r i j),hX.out.2.2.1⟩⟩
             case round=>
              have c7:=hid hX.out.2.2.2.1;clear hX;obtain⟨j,r1,v5,rfl,I⟩:=hrel;by_cases g5:j < n+1
              ·have t4:(j:Int)<=(n:Int):=Oo;have v6:(j:Int) < (n:Int)+1:=Oo;have r2:=hid I.out.1;have l8:=hid I.out.2.1;have g8:=hid I.out.2.2;clear I;generalize wr=W7 at *
               have FX:Hid (∀W,Bl W7 W->(W.cell? ⟨G,r,none⟩=some (.slice (some ⟨g' r,0,none⟩) (n+1) (cp' r))/\W.cell? ⟨G,c,none⟩=some (.slice (some ⟨g' c,0,none⟩) (n+1) (cp' c)))/\(W.cell? ⟨g' r,j*2,none⟩=some (.int .i64 (Q r j).num)/\W.cell? ⟨g' r,j*2+1,none⟩=some (.int .i64 (Q r j).den))/\(W.cell? ⟨g' c,j*2,none⟩=some (.int .i64 (Q c j).num)/\W.cell? ⟨g' c,j*2+1,none⟩=some (.int .i64 (Q c j).den))/\(W.cell? ⟨gf,0,none⟩=some (.int .i64 f.num)/\W.cell? ⟨gf,1,none⟩=some (.int .i64 f.den))/\W.frozen? ⟨g' r,j*2,none⟩=false/\W.frozen? ⟨g' r,j*2+1,none⟩=false):=hid (λW hW=>by
                have h:=l8.out.below hW;have a4:=(h.row r O).num (j:=j) Oo;have a5:=(h.row r O).den (j:=j) Oo;have a6:=(h.row c M).num (j:=j) Oo;have a7:=(h.row c M).den (j:=j) Oo;rw[qDj]at a4 a5;rw[JL]at a6 a7;have ht:=g8.out.below (bL W7 _ g8.out.1) hW;exact⟨⟨h.head O,h.head M⟩,⟨a4,a5⟩,⟨a6,a7⟩,⟨ht.1,ht.2.1⟩,RwIs.free (h.row r O) _,RwIs.free (h.row r O) _⟩)
               have KT:Hid (∀W,Cl 79 #[.agg #[.int .i64 f.num,.int .i64 f.den],.agg #[.int .i64 (Q c j).num,.int .i64 (Q c j).den]] W λe w'=>e=.returned (.agg #[.int .i64 (f*Q c j).num,.int .i64 (f*Q c j).den])/\Bl W w'):=hid (λW=>qE3 _ _ W (by rw[HF.out];exact l0.out r O) (g6.out j Oo) Dd);have KN:Hid (∀W,Cl 78 #[.agg #[.int .i64 (Q r j).num,.int .i64 (Q r j).den],.agg #[.int .i64 (f*Q c j).num,.int .i64 (f*Q c j).den]] W λe w'=>e=.returned (.agg #[.int .i64 (Q r j - f*Q c j).num,.int .i64 (Q r j - f*Q c j).den])/\Bl W w'):=hid (λW=>qE2 _ _ W (k0.out r O j Oo) ((show Sm 25401600 f by rw[HF.out];exact l0.out r O).mul (g6.out j Oo)) Dd);have r3:Hid (Q r j - f*Q c j=Q r j - Q r c / Q c c*Q c j):=hid (by rw[HF.out]);generalize Q r j - f*Q c j=z at *;generalize f*Q c j=y at *;have d7:Bl W7 W7.drew:=(bM _ _).drew;have r4:Hid (z=Q r j - Q r c / Q c c*Q c j):=r3;clear r3;go_upto_block 11 with fail
               go_cut [17] (λv wx=>v=.int .i64 j/\Hid (Bl w wx/\Mat wx w.heap.size G n g' cp' (yo Q c r (j+1))/\Two wx gf f.num f.den))
               case first=>
                obtain⟨⟨k1,k2⟩,⟨k3,k4⟩,⟨k5,k6⟩,⟨k7,k8⟩,k9,v7⟩:=FX.out W7 (bM _ _);clear k0 g6 l0 q7 q8 c9 HW;go_wp2_with fail
                have KP:Hid (∀W,Bl W7 W->W.cell? ⟨G,r,none⟩=some (.slice (some ⟨g' r,0,none⟩) (n+1) (cp' r))/\W.cell? ⟨G,c,none⟩=some (.slice (some ⟨g' c,0,none⟩) (n+1) (cp' c))/\W.cell? ⟨g' c,j*2,none⟩=some (.int .i64 (Q c j).num)/\W.cell? ⟨g' c,j*2+1,none⟩=some (.int .i64 (Q c j).den)/\W.cell? ⟨gf,0,none⟩=some (.int .i64 f.num)/\W.cell? ⟨gf,1,none⟩=some (.int .i64 f.den)):=hid (λW hW=>by
                 obtain⟨⟨m1,m2⟩,⟨m3,m4⟩,⟨m5,m6⟩,⟨m7,m8⟩,m9,r5⟩:=FX.out W hW;exact⟨m1,m2,m5,m6,m7,m8⟩)
                have KQ:Hid (∀W,Bl W7 W->((W.setCell ⟨g' r,j*2,none⟩ (.int .i64 z.num)).setCell ⟨g' r,j*2+1,none⟩ (.int .i64 z.den)).cell? ⟨G,r,none⟩=some (.slice (some ⟨g' r,0,none⟩) (n+1) (cp' r))/\((W.setCell ⟨g' r,j*2,none⟩ (.int .i64 z.num)).setCell ⟨g' r,j*2+1,none⟩ (.int .i64 z.den)).cell? ⟨G,c,none⟩=some (.slice (some ⟨g' c,0,none⟩) (n+1) (cp' c))/\((W.setCell ⟨g' r,j*2,none⟩ (.int .i64 z.num)).setCell ⟨g' r,j*2+1,none⟩ (.int .i64 z.den)).cell? ⟨g' c,j*2,none⟩=some (.int .i64 (Q c j).num)/\((W.setCell ⟨g' r,j*2,none⟩ (.int .i64 z.num)).setCell ⟨g' r,j*2+1,none⟩ (.int .i64 z.den)).cell? ⟨g' c,j*2+1,none⟩=some (.int .i64 (Q c j).den)/\((W.setCell ⟨g' r,j*2,none⟩ (.int .i64 z.num)).setCell ⟨g' r,j*2+1,none⟩ (.int .i64 z.den)).cell? ⟨gf,0,none⟩=some (.int .i64 f.num)/\((W.setCell ⟨g' r,j*2,none⟩ (.int .i64 z.num)).setCell ⟨g' r,j*2+1,none⟩ (.int .i64 z.den)).cell? ⟨gf,1,none⟩=some (.int .i64 f.den)):=hid (λW hW=>by
                 obtain⟨h1,h2,h3⟩:=Yw r2.out l8.out g8.out hW O c7.out l7 d6.out r1 r4.out;have a6:=(h2.row c M).num (j:=j) Oo;have a7:=(h2.row c M).den (j:=j) Oo;rw[JL]at a6 a7;exact⟨h2.head O,h2.head M,a6,a7,h3.1,h3.2.1⟩)
                refine wp_region_held_drew (S:=λw'=>w'.cell? ⟨G,r,none⟩=some (.slice (some ⟨g' r,0,none⟩) (n+1) (cp' r))/\w'.cell? ⟨G,c,none⟩=some (.slice (some ⟨g' c,0,none⟩) (n+1) (cp' c))/\w'.cell? ⟨g' c,j*2,none⟩=some (.int .i64 (Q c j).num)/\w'.cell? ⟨g' c,j*2+1,none⟩=some (.int .i64 (Q c j).den)/\w'.cell? ⟨gf,0,none⟩=some (.int .i64 f.num)/\w'.cell? ⟨gf,1,none⟩=some (.int .i64 f.den)) (by kernel_rfl) (KP.out _ d7) (λa3=>?_);refine wTk 0 ?_;try simp only[Act.put,List.setIfInBounds_toArray]
                refine wTk 1 ?_;try simp only[Act.put]
                refine wTk 2 ?_;try simp only[Act.put]
                refine wTk 3 ?_;try simp only[Act.put]
                refine wTk 4 ?_;try simp only[Act.put]
                refine wTk 5 ?_;try simp only[Act.put]
                refine wTk 6 ?_;try simp only[Act.put]
                refine wTk 7 ?_;try simp only[Act.put]
                refine wTk 8 ?_;try simp only[Act.put]
                refine wTk 9 ?_;try simp only[Act.put]
                refine wTk 10 ?_;try simp only[Act.put]
                refine wTk 12 ?_;try simp only[Act.put]
                refine wTk 13 ?_;try simp only[Act.put]
                refine wTk 14 ?_;try simp only[Act.put]
                refine wTk 15 ?_;try simp only[Act.put]
                refine wTk 16 ?_;try simp only[Act.put]
                refine wTk 17 ?_;try simp only[Act.put]
                refine wTk 18 ?_;try simp only[Act.put]
                refine wTk 19 ?_;try simp only[Act.put]
                refine wpAnyH_ready (rs:=[11,20]) (by kernel_rfl) Ss ?_
                refine AllReadyH.cons rfl (λK hK=>?_) (AllReadyH.cons rfl (λK hK=>?_) AllReadyH.nil)
                focus
                 go_simp
                 refine hK.out _ _ (KP.out _ d7) (λa3=>?_)
                 clear hK K
                 try simp only[Act.put,List.setIfInBounds_toArray,List.set_cons_zero,List.set_cons_succ]
                 refine wpAnyH_ready (rs:=[20]) (by kernel_rfl) Ss ?_
                 refine AllReadyH.cons rfl (λK hK=>?_) AllReadyH.nil
                 go_simp
                 go_at_call 79
                 refine(KT.out _).mono ?_
                 rintro e w8 ⟨rfl,l9⟩
                 have d0:Bl W7 w8:=bt d7 l9
                 obtain⟨⟨m1,m2⟩,⟨m3,m4⟩,⟨m5,m6⟩,⟨m7,m8⟩,m9,r5⟩:=FX.out w8 d0
                 go_wp2_with fail
                 refine hK.out _ _ (KP.out _ d0) (λa3=>?_)
                 clear hK K
                 try simp only[Act.put,List.setIfInBounds_toArray,List.set_cons_zero,List.set_cons_succ]
                rotate_left
                focus
                 go_simp
                 go_at_call 79
                 refine(KT.out _).mono ?_
                 rintro e w8 ⟨rfl,l9⟩
                 have d0:Bl W7 w8:=bt d7 l9
                 obtain⟨⟨m1,m2⟩,⟨m3,m4⟩,⟨m5,m6⟩,⟨m7,m8⟩,m9,r5⟩:=FX.out w8 d0
                 go_wp2_with fail
                 refine hK.out _ _ (KP.out _ d0) (λa3=>?_)
                 clear hK K
                 try simp only[Act.put,List.setIfInBounds_toArray,List.set_cons_zero,List.set_cons_succ]
                 refine wpAnyH_ready (rs:=[11]) (by kernel_rfl) Ss ?_
                 refine AllReadyH.cons rfl (λK hK=>?_) AllReadyH.nil
                 go_simp
                 refine hK.out _ _ (KP.out _ d0) (λa3=>?_)
                 clear hK K
                 try simp only[Act.put,List.setIfInBounds_toArray,List.set_cons_zero,List.set_cons_succ]
                all_goals
                 refine wpAnyH_ready (rs:=[21]) (by kernel_rfl) Ss ?_
                 refine AllReadyH.cons rfl (λK hK=>?_) AllReadyH.nil
                 go_simp
                 go_at_call 78
                 refine(KN.out _).mono ?_
                 rintro e w9 ⟨rfl,m0⟩
                 have g9:Bl W7 w9:=bt d0 m0
                 obtain⟨⟨n1,n2⟩,⟨n3,n4⟩,⟨n5,n6⟩,⟨n7,n8⟩,n9,v8⟩:=FX.out w9 g9
                 go_wp2_with fail
                 refine hK.out _ _ (KP.out _ g9) (λa3=>?_)
                 clear hK K
                 try simp only[Act.put,List.setIfInBounds_toArray,List.set_cons_zero,List.set_cons_succ]
                 refine wTk 22 ?_
                 try simp only[Act.put,List.setIfInBounds_toArray]
                 refine wpAnyH_ready (rs:=[23]) (by kernel_rfl) Ss ?_
                 refine AllReadyH.cons rfl (λK hK=>?_) AllReadyH.nil
                 go_simp
                 refine hK.out _ _ (KQ.out _ g9) (λa3=>?_)
                 clear hK K
                 try simp only[Act.put,List.setIfInBounds_toArray,List.set_cons_zero,List.set_cons_succ]
                 refine wpAnyH_done (by kernel_rfl) ?_ _
                 go_wp2_with fail
                 go_meet
                 exact⟨rfl,hid (Yw r2.out l8.out g8.out g9 O c7.out l7 d6.out r1 r4.out)⟩
               case rest=>
                obtain⟨rfl,hE⟩:=hcut;clear KT KN FX d7;go_wp2;go_roundw
                case rel=>exact⟨j+1,Oo,Oo,Gg,hE⟩
                case measure=>simp[intOf];omega
              ·obtain rfl:j=n+1:=Oo;have t4:¬(((n+1:Nat):Int)<=(n:Int)):=Oo;have HX:=I;clear I;go_wp2;go_roundw
               case rel=>exact⟨r+1,Oo,Gg,hid ⟨HX.out.1,HX.out.2.1.congr (λi _ j hj=>qDi hj)⟩⟩
               case measure=>simp[intOf];omega
         ·obtain rfl:r=n:=Oo;have i7:¬((r:Int) < (r:Int)):=Oo;have HX:=I;clear I;go_wp2;go_roundw
          case rel=>exact⟨c+1,Oo,Gg,hid ⟨HX.out.1,g',cp',_,_,_,_,_,HX.out.2.congr (λi hi j _=>if_pos hi),q8.out⟩⟩
          case measure=>simp[intOf];omega
      ·obtain rfl:p=n:=Oo;have i3:¬((p:Int) < (p:Int)):=Oo;have HN:Hid (¬Cov.Kern p (L.map Dem.dm)):=hid (qBK c9.out.1 HJ.out M HZ.out);go_wp2;go_ret2;exact⟨Or.inl ⟨rfl,HN.out⟩,HB.out⟩
    ·obtain rfl:c=n:=Oo;have i2:¬((c:Int) < (c:Int)):=Oo;obtain⟨r6,t5⟩:=Cov.gj_end HJ.out;obtain⟨x,hx⟩:∃x:Nat->Rat,x=λi=>T (s i) (c+c):=⟨_,rfl⟩;have HG:Hid (∀i,i < c->R i i≠0/\R i c / R i i=x i):=hid (λi hi=>by rw[hx];exact r6 i hi)
     have HR:Hid (Parts c x/\YC c L x/\Cov.Kern c (L.map Dem.dm)):=hid (by
      rw[hx];exact⟨qDn HJ.out HW.out hn,qEx c9.out.1 HJ.out,qEy c9.out.1 HJ.out⟩)
     have r7:Hid (∀i,i < c->∀j,j<=c->Sm 25401600 (R i j)):=hid (λi hi j hj=>qCX HJ.out HW.out hn hi hj);clear r6 t5 hx HJ HW c9;obtain⟨j0,hj,t6,t7,t8⟩:=info_parts Tryz.infoRatS;go_wp2;go_loopw [18,19] (λv t wr=>∃(k:Nat) (vx:Value),k<=c/\t=.int .i64 k/\vx=v/\Hid (Bl W3 wr/\wr.ownsRow W3.heap.size 28 2 vx k (rcs (prs k x)))) (λ_ t _=>c - (intOf t).toNat)
     case atStart=>exact⟨0,_,nZ _,rfl,rfl,hid ⟨(bM _ _).alloc (bK _) _,oM W3 #[] 0 (bK _) Dd rfl⟩⟩
     case round=>
      obtain⟨k,vx,hk,rfl,rfl,I⟩:=hrel;have h6:=hid I.out.1;have a8:=I.out.2;clear I;by_cases b9:k < c
      ·have i3:(k:Int) < (c:Int):=Oo;have i4:(c:Int) < (c:Int)+1:=Oo;have i5:(k:Int) < (c:Int)+1:=Oo
       have KO:Hid (∀W,Cl 77 #[.agg #[.int .i64 (R k c).num,.int .i64 (R k c).den],.agg #[.int .i64 (R k k).num,.int .i64 (R k k).den]] W λe w'=>e=.returned (.agg #[.int .i64 (x k).num,.int .i64 (x k).den])/\Bl W w'):=hid (λW=>by
        have:=qCb (R k c) (R k k) W (r7.out k b9 c (bK _)) (r7.out k b9 k Oo) Dd (HG.out k b9).1;rw[(HG.out k b9).2]at this;exact this)
       have FX:Hid (∀W,Bl wr W->W.cell? ⟨G,k,none⟩=some (.slice (some ⟨g k,0,none⟩) (c+1) (cp k))/\W.cell? ⟨g k,c*2,none⟩=some (.int .i64 (R k c).num)/\W.cell? ⟨g k,c*2+1,none⟩=some (.int .i64 (R k c).den)/\W.cell? ⟨g k,k*2,none⟩=some (.int .i64 (R k k).num)/\W.cell? ⟨g k,k*2+1,none⟩=some (.int .i64 (R k k).den)):=hid (λW hW=>by
        have h:=HM.out.below (bt h6.out hW);exact⟨h.head b9,(h.row k b9).num (bK _),(h.row k b9).den (bK _),(h.row k b9).num Oo,(h.row k b9).den Oo⟩)
       obtain⟨k1,k2,k3,k4,k5⟩:=FX.out wr (bM _ _);have t9:Hid (rcs (prs (k+1) x)=rcs (prs k x)++[.int .i64 (x k).num,.int .i64 (x k).den]):=hid (ui k x);generalize (x k).num=z1 at *;generalize (x k).den=z2 at *;have d7:Bl wr wr.drew:=(bM _ _).drew;have v9:=h6.out.size;go_upto_region 39 with fail
       go_region_law (first
        |(refine step_append_lies _ (by rfl) _ _ _ (by rfl) W3.heap.size 28 j0 (.agg #[.int .i64 0,.int .i64 0]) 2 16 Tryz.underlying26 hj t6 t7 t8 rfl Dd vx k (rcs (prs k x)) (by rfl) ((qB a8 a9).alloc _) ⟨w9.heap.size,0,none⟩ 1 1 [.int .i64 z1,.int .i64 z2] (by rfl) (by rfl) (qCU _ _ _ _) (λu hu=>by simp at hu;rcases hu with rfl|rfl <;> rfl) Dd (by unfold maxLen;omega) Oo (by have:=a9.size;simp;omega) (w9.heap.size+1) Ss ?_;intro g3 cp3 r8 f7 a2 r9 s1)
        |(go_simp;go_at_call 77;with_reducible refine(KO.out _).mono ?_;rintro e w9 ⟨rfl,m0⟩;have a9:Bl wr w9:=bt (by assumption) m0;obtain⟨m1,m2,m3,m4,m5⟩:=FX.out w9 a9))
       all_goals
        have HE:Hid (Bl W3 r8/\r8.ownsRow W3.heap.size 28 2 (.slice (some ⟨g3,0,none⟩) (k+1) cp3) (k+1) (rcs (prs (k+1) x))):=hid ⟨qe (by have:=a9.size;omega) (qB a8 a9) (bt h6.out a9) a2,by rw[t9.out];exact f7⟩
        clear f7 a2 r9 s1
        go_wp2
        go_roundw
        case rel=>exact⟨k+1,_,Oo,Gg,rfl,HE⟩
        case measure=>simp[intOf];omega
      ·obtain rfl:k=c:=Oo;have i3:¬((k:Int) < (k:Int)):=Oo;have s2:IR wr vx (prs k x):=QA (B:=W3.heap.size) (by rw[qR];exact a8);have u5:=hid s2;clear a8 s2;go_wp2;go_ret2;exact⟨Or.inr ⟨_,x,rfl,u5.out,HR.out⟩,bt HB.out h6.out⟩
end Go.Proofs.YtkaipapdlnojiaaGreat
