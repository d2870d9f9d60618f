import Derived.Deep.CutBlock
import Derived.Test.YtcnfapnfmnolbaaGreatRq23
set_option maxHeartbeats 40000000
set_option maxRecDepth 1000000
namespace Go.Proofs.YtcnfapnfmnolbaaGreat
open Go.RowKit
variable {c i j k n r:Nat}{R:Nat->Nat->Rat}{t:TypeId}
theorem Tryz.infoRS:(Tryz.prog.info? 35).map (λi=>(i.zero,i.size,i.bytes))=some (some sn,1,24):=Kl
theorem wTk{P:Program}{ops:Array Oper}{Q:Exit->Act->World->Prop}{K:Region.Mode}{S:World->Prop}(i:Nat){M:Oper}{v:Value}{fuel:Nat}{I:Array Bool}{a:Act}{w:World}(h:wpAnyH P K ops Q S fuel (I.setIfInBounds i true) (a.put M.dst v) w)(hi:ops[i]?=some M:=by exact rfl)(hs:Region.noSelect ops=true:=by kernel_rfl)(U:Region.free K ops I i=true:=by kernel_rfl)(V:(Region.ready K ops I).contains i=true:=by kernel_rfl)(hQ:∀c a w,Q (.panic c) (a.put M.dst v) w->Q (.panic c) a w:=by exact λ_ _ _ h=>h)(hy:YieldsIf P ops S M v a:=by refine Or.inl ⟨Fl,?_⟩;(intro w O;(try dsimp only at O);go_simp) <;> with_reducible rfl)(hS:S w:=by assumption):wpAnyH P K ops Q S (fuel+1) I a w:=wpAnyH_take hi hs U V hQ hy hS h
def qFz(n:Nat)(L:List Dem)(e:Ending)(w':World):Prop:=
 (e=.returned (.tuple #[sn,.bool false])/\¬Cov.Kern n (L.map Dem.dm))∨
 ∃v x,e=.returned (.tuple #[v,.bool true])/\IR w' v (prs n x)/\Parts n x/\VO n L x/\Cov.Kern n (L.map Dem.dm)
def yn(pl:List Nat)(j:Nat):Nat->Rat:=λi=>if i∈pl.take j then 1 else 0
theorem qCJ{pl:List Nat}(h:j<pl.length):(λi=>if i=pl.getD j 0 then (1:Rat) else yn pl j i)=yn pl (j+1):=by
 funext i;unfold yn;by_cases e:i=pl.getD j 0;rw[if_pos e,if_pos ((uB pl j h i).2 (Or.inr e))];rw[if_neg e];by_cases I:i∈pl.take j;rw[if_pos I,if_pos ((uB pl j h i).2 (Or.inl I))];rw[if_neg I,if_neg (λM=>by rcases (uB pl j h i).1 M with K|K;exact I K;exact e K)]
theorem qEe{L:List Dem}{d:Dem}(I:L.getD k yw=d):∀j,j<=n->(λi=>if i=n then ((d.bd:Int):Rat) else yn d.pl d.pl.length i) j=zU n L k j:=by
 intro j K;unfold zU yn;rw[I,tL]
def uJ(R:Nat->Nat->Rat)(c r:Nat):Nat->Nat->Rat:=λi k=>if i<r then Cov.elim R c i k else R i k
def vY(R:Nat->Nat->Rat)(c r j:Nat):Nat->Nat->Rat:=λi k=>if i<r∨(i=r/\k<j) then Cov.elim R c i k else R i k
theorem qDM(R:Nat->Nat->Rat)(c i k:Nat):R i k=uJ R c 0 i k:=(if_neg Oo).symm
theorem Vx(h:r=c∨R r c=0)(i k:Nat):uJ R c r i k=uJ R c (r+1) i k:=by
 unfold uJ;by_cases e:i=r;subst e;rw[if_neg Oo,if_pos Oo];unfold Cov.elim;rw[if_pos (by rcases h with h|h;exact Or.inl h;exact Or.inr (Or.inl h))];by_cases I:i<r;rw[if_pos I,if_pos Oo];rw[if_neg I,if_neg Oo]
theorem qCK(R:Nat->Nat->Rat)(c r i k:Nat):uJ R c r i k=vY R c r c i k:=by
 unfold uJ vY;by_cases e:i<r;rw[if_pos e,if_pos (Or.inl e)];rw[if_neg e];by_cases I:i=r/\k<c;rw[if_pos (Or.inr I)];unfold Cov.elim;rw[if_pos (Or.inr (Or.inr I.2))];rw[if_neg (λh=>by rcases h with h|h;exact e h;exact I h)]
theorem qDN(K:r≠c)(M:R r c≠0)(U:c<=j)(i k:Nat):(if i=r/\k=j then R r j-R r c / R c c*R c j else vY R c r j i k)=vY R c r (j+1) i k:=by
 unfold vY;by_cases e:i=r/\k=j;rw[if_pos e,if_pos (Or.inr ⟨e.1,Oo⟩)];unfold Cov.elim;rw[e.1,e.2,if_neg (λh=>by rcases h with h|h|h;exact K h;exact M h;omega)];rw[if_neg e];by_cases I:i<r∨(i=r/\k<j);rw[if_pos I,if_pos (by rcases I with h|h;exact Or.inl h;exact Or.inr ⟨h.1,Oo⟩)];rw[if_neg I,if_neg (λh=>by
  rcases h with h|h;exact I (Or.inl h);by_cases O:k=j;exact e ⟨h.1,O⟩;exact I (Or.inr ⟨h.1,Oo⟩))]
theorem qEf(K:k<=n):vY R c r (n+1) i k=uJ R c (r+1) i k:=by
 unfold vY uJ;by_cases e:i<r+1;rw[if_pos e,if_pos (by by_cases I:i<r;exact Or.inl I;exact Or.inr ⟨Oo,Oo⟩)];rw[if_neg e,if_neg (λh=>by rcases h with h|h <;> omega)]
theorem Kv(R:Nat->Nat->Rat)(c r j k:Nat):vY R c r j c k=R c k:=by
 unfold vY;split;unfold Cov.elim;rw[if_pos (Or.inl rfl)];rfl
theorem qEg(R:Nat->Nat->Rat)(c r j:Nat):vY R c r j r j=R r j:=if_neg (λh=>by rcases h with h|h <;> omega)
theorem Kw(R:Nat->Nat->Rat)(c r k:Nat):uJ R c r c k=R c k:=by
 unfold uJ;split;unfold Cov.elim;rw[if_pos (Or.inl rfl)];rfl
theorem XW(R:Nat->Nat->Rat)(c r k:Nat):uJ R c r r k=R r k:=if_neg Oo
theorem Ky{p:Nat}(I:c<n)(K:p<n)(hi:i<n):∃k,k<n/\Cov.swpR R c p i=R k:=by
 unfold Cov.swpR;split;exact⟨p,K,rfl⟩;split;exact⟨c,I,rfl⟩;exact⟨i,hi,rfl⟩
theorem VN(R:Nat->Nat->Rat)(c p:Nat):Cov.swpR R c p c=R p:=if_pos rfl
theorem qEh(k:Nat)(x:Nat->Rat):prs (k+1) x=prs k x++[((x k).num,((x k).den:Int))]:=by
 unfold prs;rw[List.range_succ,mA];rfl
theorem ZA(k:Nat)(x:Nat->Rat):rcs (prs (k+1) x)=rcs (prs k x)++[ai (x k).num,ai (x k).den]:=by
 rw[qEh];simp[rcs]
section
variable {w W5 w6:World} {G n:Nat} {g cp:Nat->Nat} {R:Nat->Nat->Rat}
theorem jU{o:Obj}(h:Below (W5.alloc o).drew.1.size (W5.alloc o).drew w6):Bl W5 w6:=
 bt ((bJ _ _).alloc (nR _) o) (qa h)
theorem Kz{x y:Int}(h:Below (W5.alloc (.cells #[ai x,ai y] t)).drew.1.size (W5.alloc (.cells #[ai x,ai y] t)).drew w6):Two w6 W5.1.size x y:=
 (uU W5 x y t).below Ss (qa h)
theorem qDO(K:Bl w W5)(M:Mat W5 w.1.size G n g cp R)(I:Bl W5 w6)(x y:Int)(t:TypeId):
 Bl w (w6.alloc (.cells #[ai x,ai y] t))/\Mat (w6.alloc (.cells #[ai x,ai y] t)) w.1.size G n g cp R/\Two (w6.alloc (.cells #[ai x,ai y] t)) w6.1.size x y/\(∀i,i<n->g i≠w6.1.size)/\w.1.size<=w6.1.size:=by
 have O:=bt K I;have U:=M.below I;exact⟨O.alloc O.size _,U.below (aK),uU w6 x y t,λi hi e=>by have:=(U.row i hi).lt;omega,O.size⟩
theorem qCL(I:Bl w W5)(K:Mat W5 w.1.size G n g cp R){a b:Int}(h:Below (W5.alloc (.cells #[ai a,ai b] t)).drew.1.size (W5.alloc (.cells #[ai a,ai b] t)).drew w6)(x y:Int):
 Bl w ((w6.setCell (az W5.1.size 0) (ai x)).setCell (az W5.1.size 1) (ai y))/\Mat ((w6.setCell (az W5.1.size 0) (ai x)).setCell (az W5.1.size 1) (ai y)) w.1.size G n g cp R/\Two ((w6.setCell (az W5.1.size 0) (ai x)).setCell (az W5.1.size 1) (ai y)) W5.1.size x y/\(∀i,i<n->g i≠W5.1.size)/\w.1.size<=W5.1.size:=by
 have M:=jU h;have O:=bt I M;have U:Mat ((w6.setCell (az W5.1.size 0) (ai x)).setCell (az W5.1.size 1) (ai y)) w.1.size G n g cp R:=K.below ((M.setCell (nR _) _).setCell (nR _) _);have hs:=I.size;exact⟨(O.setCell hs _).setCell hs _,U,(Kz h).set x y,λi hi e=>by have:=(K.row i hi).lt;omega,hs⟩
theorem Vy{O I:World}{gf:Nat}{Q:Nat->Nat->Rat}{f z:Rat}(a3:Bl w O)(a4:Mat O w.1.size G n g cp (vY Q c r j))(U:Two O gf f.num f.den)(K:Bl O I)(M:r<n)(a5:∀i,i<n->g i≠gf)(a6:r≠c)(a7:Q r c≠0)(a8:c<=j)(hz:z=Q r j-Q r c / Q c c*Q c j):
 Bl w ((I.setCell (az (g r) (j*2)) (ai z.num)).setCell (az (g r) (j*2+1)) (ai z.den))/\Mat ((I.setCell (az (g r) (j*2)) (ai z.num)).setCell (az (g r) (j*2+1)) (ai z.den)) w.1.size G n g cp (vY Q c r (j+1))/\Two ((I.setCell (az (g r) (j*2)) (ai z.num)).setCell (az (g r) (j*2+1)) (ai z.den)) gf f.num f.den:=by
 have V:=a4.below K;have hb:=V.base.2 r M;refine⟨((bt a3 K).setCell hb _).setCell hb _,(V.set M j z).congr (λi _ k _=>?_),?_⟩;rw[hz];exact qDN a6 a7 a8 i k;have ht:=U.below (bL O _ U.1) K;have hg:gf≠g r:=λe=>a5 r M e.symm;have hq:((I.setCell (az (g r) (j*2)) (ai z.num)).setCell (az (g r) (j*2+1)) (ai z.den)).1[gf]?=I.1[gf]?:=(bD _ _ _ _ hg).trans (bD _ _ _ _ hg);exact⟨(bF (w:=I) (a:=(az gf 0)) hq).trans ht.1,(bF (w:=I) (a:=(az gf 1)) hq).trans ht.2.1,(World.frozen?_of_block (w:=I) (a:=(az gf 0)) hq).trans ht.2.2.1,(World.frozen?_of_block (w:=I) (a:=(az gf 1)) hq).trans ht.2.2.2⟩
end
theorem qDP(w:World)(v u:Value)(t:TypeId):∀j x,[v,u][j]?=some x->(w.alloc (.cells #[v,u] t)).cell? (((az w.1.size 0):Addr).add j)=some x:=by
 intro j x I;match j,I with
 |0,I=>simp at I;subst I;simp[Addr.add]
 |1,I=>simp at I;subst I;simp[Addr.add]
theorem QR(w:World)(vc:Value)(n:Nat)(ps:List (Value×Dem))(t8:1<=n)(hn:n<=7)(hl:ps.length=n)(hc:DP w vc ps)(g9:∀p∈ps,zj n p.2):
 Cl 166 #[ai n,vc] w λe w'=>qFz n (ps.map Prod.snd) e w'/\Bl w w':=by
 obtain⟨i0,hi,U,r9,s1⟩:=info_parts Tryz.infoRS;obtain⟨L,hL⟩:=Ex (ps.map Prod.snd);rw[<-hL];have KZ:Hh (∀W,Cl 202 #[ai ((n:Int)+1)] W λe w'=>∃v,e=.returned v/\w'.ownsRow W.1.size 36 2 v (n+1) (zs (n+1))/\Bl W w'):=ay (λW=>by
  have:=Uj W (n+1) Oo;rw[show((n+1:Nat):Int)=(n:Int)+1 by omega]at this;exact this)
 obtain⟨⟨a,cap,rfl,d2⟩,d3⟩:=hc;have e0:∃b o,a=some (az b o)/\∀j u,(dcs ps)[j]?=some u->w.cell? (az b (o+j))=some u:=by
  rcases d2 with h0|h;omega;exact h
 obtain⟨b,o,rfl,e7⟩:=e0;have l7:Hh (∀k,k<n->∃u d,L.getD k yw=d/\zj n d/\IntsAt w u d.pl/\w.cell? (az b (o+k*3))=some u/\w.cell? (az b (o+k*3+1))=some (.bool d.up)/\w.cell? (az b (o+k*3+2))=some (ai d.bd)):=ay (λk hk=>by
  have hm:ps.getD k pd0∈ps:=xr Oo;obtain⟨h1,h2,h3⟩:=ZP ps k Oo;exact⟨(ps.getD k pd0).1,(ps.getD k pd0).2,by rw[hL];exact jw ps k,g9 _ hm,d3 _ hm,e7 _ _ h1,e7 _ _ h2,e7 _ _ h3⟩)
 have c8:Hh (L.length=n/\∀D∈L,zj n D):=ay ⟨by rw[hL,lM];exact hl,λD hD=>by
  rw[hL]at hD;obtain⟨p,hp,rfl⟩:=List.mem_map.1 hD;exact g9 p hp⟩
 rw[hl];clear d2 e7 d3 g9 hL hl;go_enter Tryz.func166,Tryz.ntmps166;go_wp2;go_loopw [6,23] (λv t wr=>∃(k:Nat) (vr:Value),k<=n/\t=ai k/\vr=v/\Hh (Bl w wr/\∃vs g cp,Rws wr w.1.size n k vr vs g cp (zU n L))) (λ_ t _=>n-(intOf t).toNat);exact⟨0,_,nZ _,rfl,rfl,ay ⟨aK,[],λ_=>0,λ_=>0,oM w #[] 0 (nR _) Dd rfl,rfl,λi hi=>Oo,λi hi=>Oo,λi hi=>Oo,λi hi=>Oo⟩⟩;obtain⟨k,vr,hk,rfl,rfl,I⟩:=hrel;obtain⟨b1,vs,g,cp,hR⟩:=I.o;have d4:=ay b1;have HR:=ay hR;by_cases s2:k<n
 ·have i1:(k:Int)<(n:Int):=Oo;obtain⟨u,d,hd,e8,hu,e1,e2,e3⟩:=l7.o k s2;have c1:=(b1.cell (p:=(az b (o+k*3))) (bL w _ e1)).trans e1;have c2:=(b1.cell (p:=(az b (o+k*3+1))) (bL w _ e2)).trans e2;have c3:=(b1.cell (p:=(az b (o+k*3+2))) (bL w _ e3)).trans e3;have HD:=ay hd;have s3:=ay e8;have HU:=ay hu;obtain⟨au,cu,rfl,l8⟩:=hu;have s4:=ay l8;obtain⟨m,hm⟩:=Ex d.pl.length;have HM:=ay hm;have t9:m<=7:=by rw[hm];exact e8.len
  have v6:-1<=d.bd/\d.bd<=1:=by rcases e8.bd with h|h <;> omega
  rw[<-hm]at c1;clear hd e8 e1 e2 e3 l8 hm b1 hR I HU;go_upto_region 6 with (first|(go_at_call 202;refine(KZ.o _).mono ?_;rintro e w1 ⟨v1,rfl,d5,h6⟩));obtain⟨c,cc,rfl,s5,s6,g7⟩:=qEF d5;have l9:ArrAt (wr.alloc (.cells #[.slice au m cu,.bool d.up,ai d.bd] 183)) wr.1.size 3 (f3 (.slice au m cu) (.bool d.up) (ai d.bd)):=zG wr 3 (f3 (.slice au m cu) (.bool d.up) (ai d.bd)) 183;have e9:=l9.below Oo h6;have h7:Bl wr w1:=bt (aK) h6;have m0:=HR.o.below h7;have o4:∀i,i<k->g i≠c:=λi hi e=>by
   have:=(HR.o.row i hi).lt;have h2:wr.1.size<(wr.alloc (.cells #[.slice au m cu,.bool d.up,.int .i64 d.bd] 183)).1.size:=Ss;omega
  have h8:wr.1.size≠c:=λe=>by
   have h2:wr.1.size<(wr.alloc (.cells #[.slice au m cu,.bool d.up,.int .i64 d.bd] 183)).1.size:=Ss;omega
  have d6:w.1.size<=c:=by
   have h2:wr.1.size<(wr.alloc (.cells #[.slice au m cu,.bool d.up,.int .i64 d.bd] 183)).1.size:=Ss;have:=d4.o.size;omega
  have o5:=bt d4.o h7;obtain⟨gd,o6⟩:=Ex wr.1.size;rw[<-o6]at e9 h8 ⊢;have HX:Hh (Bl w w1/\Rws w1 w.1.size n k vr vs g cp (zU n L)/\ArrAt w1 gd 3 (f3 (.slice au m cu) (.bool d.up) (ai d.bd))/\RowAt w1 c n (yn d.pl 0)):=ay ⟨o5,m0,e9,by
   have:yn d.pl 0=λ_=>0:=by funext i;unfold yn;rw[List.take_zero,if_neg Ss]
   rw[this];exact g7⟩
  have b9:=ay o4;obtain⟨p0,p1,p2⟩:=e9.three;clear d5 h6 l9 e9 h7 m0 o4 o5 g7 s5 s6 o6 HR d4 c1 c2 c3;go_wp2;go_loopw [33] (λt wr=>∃j:Nat,j<=m/\t=ai j/\Hh (Bl w wr/\Rws wr w.1.size n k vr vs g cp (zU n L)/\ArrAt wr gd 3 (f3 (.slice au m cu) (.bool d.up) (ai d.bd))/\RowAt wr c n (yn d.pl j))) (λt _=>m-(intOf t).toNat);exact⟨0,nZ _,rfl,HX⟩;obtain⟨j,hj,rfl,I⟩:=hrel;clear HX p0 p1 p2;by_cases o7:j<m
  ·have i2:(j:Int)<(m:Int):=Oo;obtain⟨b3,o3,rfl,hy⟩:=s4.o j (by rw[<-HM.o];exact o7);have f7:j<d.pl.length:=by rw[<-HM.o];exact o7
   have g8:d.pl.getD j 0∈d.pl:=xr f7;have s7:=s3.o.lt _ g8;have HS:Hh ((λi=>if i=d.pl.getD j 0 then (1:Rat) else yn d.pl j i)=yn d.pl (j+1)):=ay (qCJ f7);have y1:=(I.o.1.cell (p:=(az b3 (o3+j))) (bL w _ hy)).trans hy;obtain⟨q,hq⟩:=Ex (d.pl.getD j 0);rw[<-hq]at s7 HS y1;have i3:(q:Int)<(n:Int)+1:=Oo;have f1:=RwIs.free I.o.2.2.2 (q*2);have f2:=RwIs.free I.o.2.2.2 (q*2+1);have t1:=I.o.2.2.2.num (j:=q) Oo;have t2:=I.o.2.2.2.den (j:=q) Oo;have HF:Hh (∀W',W'=(wr.setCell (az c (q*2)) (ai 1)).setCell (az c (q*2+1)) (ai 1)->Bl w W'/\Rws W' w.1.size n k vr vs g cp (zU n L)/\ArrAt W' gd 3 (f3 (.slice (some (az b3 o3)) m cu) (.bool d.up) (ai d.bd))/\RowAt W' c n (yn d.pl (j+1))):=ay (λW' e=>by
    subst e;obtain⟨h1,h2,h3,h4⟩:=I.o;refine⟨(h1.setCell d6 _).setCell d6 _,(h2.other h4 b9.o _ _).other (RwIs.set h4 _ _) b9.o _ _,(h3.move (bD _ _ _ _ h8)).move (bD _ _ _ _ h8),?_⟩;rw[<-HS.o];exact h4.set q 1)
   clear hy hq g8 f7 I;go_wp2;go_roundw;exact⟨j+1,Oo,Gg,ay (HF.o _ rfl)⟩;exact Im
  obtain rfl:j=m:=Oo;have i2:¬((j:Int)<(j:Int)):=Oo;have i3:(n:Int)<(n:Int)+1:=Oo;obtain⟨p0,p1,p2⟩:=I.o.2.2.1.three;have f1:=RwIs.free I.o.2.2.2 (n*2);have f2:=RwIs.free I.o.2.2.2 (n*2+1);have t1:=I.o.2.2.2.num (j:=n) Oo;have t2:=I.o.2.2.2.den (j:=n) Oo;have HF:Hh (∀W',W'=(wr.setCell (az c (n*2)) (ai d.bd)).setCell (az c (n*2+1)) (ai 1)->Bl w W'/\Rws W' w.1.size n k vr vs g cp (zU n L)/\∃r,RowAt W' c n r/\∀j,j<=n->r j=zU n L k j):=ay (λW' e=>by
   subst e;obtain⟨h1,h2,h3,h4⟩:=I.o;refine⟨(h1.setCell d6 _).setCell d6 _,(h2.other h4 b9.o _ _).other (RwIs.set h4 _ _) b9.o _ _,_,h4.set n (((d.bd:Int):Rat)),?_⟩;rw[HM.o];exact qEe HD.o)
  clear I;go_upto_region 12 with fail;obtain⟨W',h9⟩:=Ex ((wr.setCell (az c (n*2)) (ai d.bd)).setCell (az c (n*2+1)) (ai 1));obtain⟨h1,h2,r,h4,h5⟩:=HF.o _ h9;rw[<-h9];clear h9 HF p0 p1 p2 f1 f2 t1 t2;have a9:=h2.own;go_wp2_with (first
   |(at_builtin;refine wpList_append_own _ rfl _ _ 246 rfl w.1.size 35 i0 sn 1 24 Tryz.underlying246 hi U r9 s1 rfl Dd _ _ _ rfl (a9.alloc _) (az W'.1.size 0) 1 1 [.slice (some (az c 0)) (n+1) cc] rfl rfl ?c1 ?c2 ?c3 ?c4 ?c5 ?_))
  case c2=>rfl
  case c3=>unfold maxLen;omega
  case c4=>omega
  case c5=>have:=h1.size;simp;omega
  intro v' w3 d7 a3 _;have o8:=h2.step h4 d6 b9.o h5 d7 a3;have o9:=zT h1.size h2.own h1 a3;have HF:Hh (Bl w w3/\∃vs g cp,Rws w3 w.1.size n (k+1) v' vs g cp (zU n L)):=ay ⟨o9,_,_,_,o8⟩;clear o8 o9 a9 d7 a3 h1 h2 h4 h5;go_wp2;go_roundw;exact⟨k+1,_,Oo,Gg,rfl,HF⟩;exact Im
 obtain rfl:n=k:=Oo;have i1:¬((n:Int)<(n:Int)):=Oo;obtain⟨G,cG,s8,p3⟩:=HR.o.mat Oo;subst s8;have p4:Hh (Bl w wr/\∃g cp R T B s piv,Mat wr w.1.size G n g cp R/\Cov.GJ n 0 (zU n L) R T B s piv):=ay ⟨d4.o,g,cp,_,_,_,_,_,p3,Cov.gj_start n _⟩;have HW:Hh (∀j,j<=n->∀r,r<n->Cov.Whole 1 (zU n L r j)):=ay (λj _ r hr=>qAj c8.o.2 (by rw[c8.o.1];exact hr));clear p3 HR d4 I b1 hR KZ l7;go_wp2;go_loopw [12] (λt wr=>∃c:Nat,c<=n/\t=ai c/\Hh (Bl w wr/\∃g cp R T B s piv,Mat wr w.1.size G n g cp R/\Cov.GJ n c (zU n L) R T B s piv)) (λt _=>n-(intOf t).toNat);exact⟨0,nZ _,rfl,p4⟩;clear p4 g cp vs;obtain⟨c,hc,rfl,I⟩:=hrel;obtain⟨b1,g,cp,R,T,B,s,piv,hM,hJ⟩:=I.o;generalize wr=W3 at *;have HB:=ay b1;have HM:=ay hM;have HJ:=ay hJ;clear b1 hM hJ I;by_cases M:c<n
 ·have i2:(c:Int)<(n:Int):=Oo;have i4:(c:Int)<(n:Int)+1:=Oo;go_wp2;go_loopw [13] (λt wr=>∃p:Nat,c<=p/\p<=n/\t=ai p/\Hh (wr=W3/\∀q,c<=q->q<p->R q c=0)) (λt _=>n-(intOf t).toNat);exact⟨c,nR _,hc,rfl,ay ⟨rfl,λq h1 h2=>Oo⟩⟩;obtain⟨p,j1,v7,rfl,hP⟩:=hrel;obtain rfl:W3=wr:=hP.o.1.symm;have HZ:=ay hP.o.2;clear hP;by_cases c7:p<n
  ·have i3:(p:Int)<(n:Int):=Oo;have e1:=HM.o.head c7;have e2:=(HM.o.row p c7).num (j:=c) Oo;by_cases U:R p c=0
   ·have V:(R p c).num=0:=by rw[U];rfl
    rw[V]at e2;have d0:=ay U;clear V U;go_wp2;go_roundw
    case rel=>exact⟨p+1,Oo,Oo,Gg,ay ⟨by trivial,λq h1 h2=>by
     by_cases e:q=p;rw[e];exact d0.o;exact HZ.o q h1 Oo⟩⟩
    case measure=>simp[intOf];omega
   have V:¬(R p c).num=0:=Qd U;have j2:((R p c).num == 0)=false:=by simp[V]
   have i5:¬((p:Int)=(n:Int)):=Oo;have i6:((p:Int) == (n:Int))=false:=Sy;have e3:=HM.o.head M;obtain⟨u4,e4⟩:∃u,(W3.setCell (az G p) (.slice (some (az (g c) 0)) (n+1) (cp c))).cell? (az G c)=some u:=⟨_,(HM.o.top.set p _).cell M⟩;have f1:=HM.o.top.free p;have f2:=HM.o.top.free c;have p5:=HM.o.swap M c7;have p6:Bl w ((W3.setCell (az G p) (.slice (some (az (g c) 0)) (n+1) (cp c))).setCell (az G c) (.slice (some (az (g p) 0)) (n+1) (cp p))):=(HB.o.setCell HM.o.base.1 _).setCell HM.o.base.1 _;have p7:∀i,i<n->∀j,j<=n->Sm 25401600 (Cov.swpR R c p i j):=λi hi j hj=>by
    obtain⟨k,hk,e⟩:=Ky (R:=R) M c7 hi;rw[e];exact qDS HJ.o HW.o hn hk hj
   have p8:∀j,j<=n->Sm 5040 (Cov.swpR R c p c j):=λj hj=>by
    rw[VN];exact qDR HJ.o HW.o hn j1 c7 hj
   have p9:∀i,i<n->Sm 25401600 (Cov.swpR R c p i c / Cov.swpR R c p c c):=λi hi=>by
    obtain⟨k,hk,e⟩:=Ky (R:=R) M c7 hi;rw[e,VN];exact qG6 HJ.o HW.o hn j1 c7 U hk
   have q0:Cov.swpR R c p c c≠0:=by rw[VN];exact U
   have q1:=Cov.gj_step HJ.o HW.o j1 c7 U;have j3:=ay p7;have f8:=ay p8;have j4:=ay p9;have q2:=ay q0;have q3:=ay q1;have q4:=ay p5;have q5:=ay p6;clear p7 p8 p9 q0 q1 p5 p6 U;go_upto_region 25 with fail;generalize (W3.setCell (az G p) (.slice (some (az (g c) 0)) (n+1) (cp c))).setCell (az G c) (.slice (some (az (g p) 0)) (n+1) (cp p))=W4 at *;generalize Cov.swpR R c p=Q at *;generalize Cov.swp g c p=g' at *;generalize Cov.swp cp c p=cp' at *;clear e1 e2 e3 e4 f1 f2 HM HB HZ V j2 HJ;go_wp2;go_loopw [95] (λt wr=>∃r:Nat,r<=n/\t=ai r/\Hh (Bl w wr/\Mat wr w.1.size G n g' cp' (uJ Q c r))) (λt _=>n-(intOf t).toNat);exact⟨0,nZ _,rfl,ay ⟨q5.o,q4.o.congr (λi _ j _=>qDM Q c i j)⟩⟩;clear q4 q5;obtain⟨r,hr,rfl,I⟩:=hrel;by_cases O:r<n
   ·have i7:(r:Int)<(n:Int):=Oo;generalize wr=W5 at *;by_cases j5:r=c
    ·subst j5;have HX:=I;clear I;go_wp2;go_roundw;exact⟨r+1,Oo,Gg,ay ⟨HX.o.1,HX.o.2.congr (λi _ j _=>Vx (Or.inl rfl) i j)⟩⟩;exact Im
    have i8:¬((r:Int)=(c:Int)):=Oo;have i9:((r:Int) == (c:Int))=false:=Sy;have f9:=ay I.o.1;have b7:=ay I.o.2;have e1:=I.o.2.head O;have e2:=(I.o.2.row r O).num (j:=c) Oo;rw[XW]at e2;clear I;by_cases U:Q r c=0
    ·have V:(Q r c).num=0:=by rw[U];rfl
     rw[V]at e2;have d0:=ay U;clear V U;go_wp2;go_roundw;exact⟨r+1,Oo,Gg,ay ⟨f9.o,b7.o.congr (λi _ j _=>Vx (Or.inr d0.o) i j)⟩⟩;exact Im
    have V:¬(Q r c).num=0:=Qd U;have j2:((Q r c).num == 0)=false:=by simp[V]
    have d0:=ay U;have e3:=b7.o.head M;have e4:=(b7.o.row r O).den (j:=c) Oo;have e5:=(b7.o.row c M).num (j:=c) Oo;have e6:=(b7.o.row c M).den (j:=c) Oo;rw[XW]at e4;rw[Kw]at e5 e6;have KO:Hh (∀W,Cl 203 #[.agg #[ai (Q r c).num,ai (Q r c).den],.agg #[ai (Q c c).num,ai (Q c c).den]] W λe w'=>e=.returned (.agg #[ai (Q r c / Q c c).num,ai (Q r c / Q c c).den])/\Bl W w'):=ay (λW=>qDW _ _ W (j3.o r O c Oo) (f8.o c Oo) Dd q2.o);obtain⟨f,hf⟩:=Ex (Q r c / Q c c);rw[<-hf]at KO;have HF:=ay hf;clear hf U;go_upto_region 29 with fail;go_cut [16] (λv wx=>∃gf,v=.pointer (some (az gf 0))/\Hh (Bl w wx/\Mat wx w.1.size G n g' cp' (uJ Q c r)/\Two wx gf f.num f.den/\(∀i,i<n->g' i≠gf)/\w.1.size<=gf))
    case first=>
     have FX:Hh (∀W,Bl W5 W->W.cell? (az G r)=some (.slice (some (az (g' r) 0)) (n+1) (cp' r))/\W.cell? (az G c)=some (.slice (some (az (g' c) 0)) (n+1) (cp' c))/\W.cell? (az (g' r) (c*2))=some (ai (Q r c).num)/\W.cell? (az (g' r) (c*2+1))=some (ai (Q r c).den)/\W.cell? (az (g' c) (c*2))=some (ai (Q c c).num)/\W.cell? (az (g' c) (c*2+1))=some (ai (Q c c).den)):=ay (λW hW=>by
      have h:=b7.o.below hW;have a4:=(h.row r O).num (j:=c) Oo;have a5:=(h.row r O).den (j:=c) Oo;have a6:=(h.row c M).num (j:=c) Oo;have a7:=(h.row c M).den (j:=c) Oo;rw[XW]at a4 a5;rw[Kw]at a6 a7;exact⟨h.head O,h.head M,a4,a5,a6,a7⟩)
     obtain⟨l1,l2,l3,l4,l5,l6⟩:=FX.o (W5.alloc (.cells #[ai 0,ai 0] 36)) (aK);go_region_law (first
      |(go_simp;go_at_call 203;refine(KO.o _).mono ?_;rintro e w6 ⟨rfl,d8⟩;have b0:Bl W5 w6:=qa d8;obtain⟨k1,k2,k3,k4,k5,k6⟩:=FX.o w6 b0)
      |(go_simp;go_at_call 203;refine(KO.o _).mono ?_;rintro e w6 ⟨rfl,d8⟩;have b0:Bl W5 w6:=jU d8;obtain⟨z1,z2,z3,z4⟩:=Kz d8;obtain⟨k1,k2,k3,k4,k5,k6⟩:=FX.o w6 b0))
     all_goals
      go_wp2_with fail
      go_meet
      first
       |exact⟨_,rfl,ay (qDO f9.o b7.o b0 _ _ _)⟩
       |exact⟨_,rfl,ay (qCL f9.o b7.o d8 _ _)⟩
    case rest=>
     obtain⟨gf,rfl,hX⟩:=hcut;clear e1 e2 e3 e4 e5 e6 KO b7 f9 V j2;generalize wc=W6 at *;go_wp2;go_loopw [17] (λt wr=>∃j:Nat,c<=j/\j<=n+1/\t=ai j/\Hh (Bl w wr/\Mat wr w.1.size G n g' cp' (vY Q c r j)/\Two wr gf f.num f.den)) (λt _=>n+1-(intOf t).toNat);exact⟨c,nR _,Oo,rfl,ay ⟨hX.o.1,hX.o.2.1.congr (λi _ j _=>qCK Q c r i j),hX.o.2.2.1⟩⟩;have b9:=ay hX.o.2.2.2.1;clear hX;obtain⟨j,q6,v8,rfl,I⟩:=hrel;by_cases f7:j<n+1
     ·have s9:(j:Int)<=(n:Int):=Oo;have v9:(j:Int)<(n:Int)+1:=Oo;have q7:=ay I.o.1;have j6:=ay I.o.2.1;have g4:=ay I.o.2.2;clear I;generalize wr=W7 at *;have FX:Hh (∀W,Bl W7 W->(W.cell? (az G r)=some (.slice (some (az (g' r) 0)) (n+1) (cp' r))/\W.cell? (az G c)=some (.slice (some (az (g' c) 0)) (n+1) (cp' c)))/\(W.cell? (az (g' r) (j*2))=some (ai (Q r j).num)/\W.cell? (az (g' r) (j*2+1))=some (ai (Q r j).den))/\(W.cell? (az (g' c) (j*2))=some (ai (Q c j).num)/\W.cell? (az (g' c) (j*2+1))=some (ai (Q c j).den))/\(W.cell? (az gf 0)=some (ai f.num)/\W.cell? (az gf 1)=some (ai f.den))/\W.frozen? (az (g' r) (j*2))=false/\W.frozen? (az (g' r) (j*2+1))=false):=ay (λW hW=>by
       have h:=j6.o.below hW;have a4:=(h.row r O).num (j:=j) Oo;have a5:=(h.row r O).den (j:=j) Oo;have a6:=(h.row c M).num (j:=j) Oo;have a7:=(h.row c M).den (j:=j) Oo;rw[qEg]at a4 a5;rw[Kv]at a6 a7;have ht:=g4.o.below (bL W7 _ g4.o.1) hW;exact⟨⟨h.head O,h.head M⟩,⟨a4,a5⟩,⟨a6,a7⟩,⟨ht.1,ht.2.1⟩,RwIs.free (h.row r O) _,RwIs.free (h.row r O) _⟩)
      have KT:Hh (∀W,Cl 205 #[.agg #[ai f.num,ai f.den],.agg #[ai (Q c j).num,ai (Q c j).den]] W λe w'=>e=.returned (.agg #[ai (f*Q c j).num,ai (f*Q c j).den])/\Bl W w'):=ay (λW=>qF7 _ _ W (by rw[HF.o];exact j4.o r O) (f8.o j Oo) Dd);have KN:Hh (∀W,Cl 204 #[.agg #[ai (Q r j).num,ai (Q r j).den],.agg #[ai (f*Q c j).num,ai (f*Q c j).den]] W λe w'=>e=.returned (.agg #[ai (Q r j-f*Q c j).num,ai (Q r j-f*Q c j).den])/\Bl W w'):=ay (λW=>qF6 _ _ W (j3.o r O j Oo) ((show Sm 25401600 f by rw[HF.o];exact j4.o r O).mul (f8.o j Oo)) Dd);have q8:Hh (Q r j-f*Q c j=Q r j-Q r c / Q c c*Q c j):=ay (by rw[HF.o]);generalize Q r j-f*Q c j=z at *;generalize f*Q c j=y at *;have d1:Bl W7 W7.drew:=(bJ _ _).drew;have q9:Hh (z=Q r j-Q r c / Q c c*Q c j):=q8;clear q8;go_upto_block 11 with fail;go_cut [17] (λv wx=>v=ai j/\Hh (Bl w wx/\Mat wx w.1.size G n g' cp' (vY Q c r (j+1))/\Two wx gf f.num f.den))
      case first=>
       obtain⟨⟨k1,k2⟩,⟨k3,k4⟩,⟨k5,k6⟩,⟨k7,k8⟩,k9,w2⟩:=FX.o W7 (bJ _ _);clear j3 f8 j4 q2 q3 c8 HW;go_wp2_with fail;have KP:Hh (∀W,Bl W7 W->W.cell? (az G r)=some (.slice (some (az (g' r) 0)) (n+1) (cp' r))/\W.cell? (az G c)=some (.slice (some (az (g' c) 0)) (n+1) (cp' c))/\W.cell? (az (g' c) (j*2))=some (ai (Q c j).num)/\W.cell? (az (g' c) (j*2+1))=some (ai (Q c j).den)/\W.cell? (az gf 0)=some (ai f.num)/\W.cell? (az gf 1)=some (ai f.den)):=ay (λW hW=>by
        obtain⟨⟨m1,m2⟩,⟨m3,m4⟩,⟨m5,m6⟩,⟨m7,m8⟩,m9,m10⟩:=FX.o W hW;exact⟨m1,m2,m5,m6,m7,m8⟩)
       have KQ:Hh (∀W,Bl W7 W->((W.setCell (az (g' r) (j*2)) (ai z.num)).setCell (az (g' r) (j*2+1)) (ai z.den)).cell? (az G r)=some (.slice (some (az (g' r) 0)) (n+1) (cp' r))/\((W.setCell (az (g' r) (j*2)) (ai z.num)).setCell (az (g' r) (j*2+1)) (ai z.den)).cell? (az G c)=some (.slice (some (az (g' c) 0)) (n+1) (cp' c))/\((W.setCell (az (g' r) (j*2)) (ai z.num)).setCell (az (g' r) (j*2+1)) (ai z.den)).cell? (az (g' c) (j*2))=some (ai (Q c j).num)/\((W.setCell (az (g' r) (j*2)) (ai z.num)).setCell (az (g' r) (j*2+1)) (ai z.den)).cell? (az (g' c) (j*2+1))=some (ai (Q c j).den)/\((W.setCell (az (g' r) (j*2)) (ai z.num)).setCell (az (g' r) (j*2+1)) (ai z.den)).cell? (az gf 0)=some (ai f.num)/\((W.setCell (az (g' r) (j*2)) (ai z.num)).setCell (az (g' r) (j*2+1)) (ai z.den)).cell? (az gf 1)=some (ai f.den)):=ay (λW hW=>by
        obtain⟨h1,h2,h3⟩:=Vy q7.o j6.o g4.o hW O b9.o j5 d0.o q6 q9.o;have a6:=(h2.row c M).num (j:=j) Oo;have a7:=(h2.row c M).den (j:=j) Oo;rw[Kv]at a6 a7;exact⟨h2.head O,h2.head M,a6,a7,h3.1,h3.2.1⟩)
       refine wp_region_held_drew (S:=λw'=>w'.cell? (az G r)=some (.slice (some (az (g' r) 0)) (n+1) (cp' r))/\w'.cell? (az G c)=some (.slice (some (az (g' c) 0)) (n+1) (cp' c))/\w'.cell? (az (g' c) (j*2))=some (ai (Q c j).num)/\w'.cell? (az (g' c) (j*2+1))=some (ai (Q c j).den)/\w'.cell? (az gf 0)=some (ai f.num)/\w'.cell? (az gf 1)=some (ai f.den)) Kl (KP.o _ d1) (λa8=>?_);refine wTk 0 ?_;try simp only[Act.put,List.setIfInBounds_toArray]
       refine wTk 1 ?_;try simp only[Act.put]
       refine wTk 2 ?_;try simp only[Act.put]
       refine wTk 3 ?_;try simp only[Act.put]
       refine wTk 4 ?_;try simp only[Act.put]
       refine wTk 5 ?_;try simp only[Act.put]
       refine wTk 6 ?_;try simp only[Act.put]
       refine wTk 7 ?_;try simp only[Act.put]
       refine wTk 8 ?_;try simp only[Act.put]
       refine wTk 9 ?_;try simp only[Act.put]
       refine wTk 10 ?_;try simp only[Act.put]
       refine wTk 12 ?_;try simp only[Act.put]
       refine wTk 13 ?_;try simp only[Act.put]
       refine wTk 14 ?_;try simp only[Act.put]
       refine wTk 15 ?_;try simp only[Act.put]
       refine wTk 16 ?_;try simp only[Act.put]
       refine wTk 17 ?_;try simp only[Act.put]
       refine wTk 18 ?_;try simp only[Act.put]
       refine wTk 19 ?_;try simp only[Act.put]
       refine wpAnyH_ready (rs:=[11,20]) Kl Ss ?_
       refine AllReadyH.cons rfl (λK hK=>?_) (AllReadyH.cons rfl (λK hK=>?_) AllReadyH.nil)
       focus
        go_simp
        refine hK.out _ _ (KP.o _ d1) (λa8=>?_)
        clear hK K
        try simp only[Act.put,List.setIfInBounds_toArray,List.set_cons_zero,List.set_cons_succ]
        refine wpAnyH_ready (rs:=[20]) Kl Ss ?_
        refine AllReadyH.cons rfl (λK hK=>?_) AllReadyH.nil
        go_simp
        go_at_call 205
        refine(KT.o _).mono ?_
        rintro e w8 ⟨rfl,k0⟩
        have c9:Bl W7 w8:=bt d1 k0
        obtain⟨⟨m1,m2⟩,⟨m3,m4⟩,⟨m5,m6⟩,⟨m7,m8⟩,m9,m10⟩:=FX.o w8 c9
        go_wp2_with fail
        refine hK.out _ _ (KP.o _ c9) (λa8=>?_)
        clear hK K
        try simp only[Act.put,List.setIfInBounds_toArray,List.set_cons_zero,List.set_cons_succ]
       rotate_left;focus
        go_simp
        go_at_call 205
        refine(KT.o _).mono ?_
        rintro e w8 ⟨rfl,k0⟩
        have c9:Bl W7 w8:=bt d1 k0
        obtain⟨⟨m1,m2⟩,⟨m3,m4⟩,⟨m5,m6⟩,⟨m7,m8⟩,m9,m10⟩:=FX.o w8 c9
        go_wp2_with fail
        refine hK.out _ _ (KP.o _ c9) (λa8=>?_)
        clear hK K
        try simp only[Act.put,List.setIfInBounds_toArray,List.set_cons_zero,List.set_cons_succ]
        refine wpAnyH_ready (rs:=[11]) Kl Ss ?_
        refine AllReadyH.cons rfl (λK hK=>?_) AllReadyH.nil
        go_simp
        refine hK.out _ _ (KP.o _ c9) (λa8=>?_)
        clear hK K
        try simp only[Act.put,List.setIfInBounds_toArray,List.set_cons_zero,List.set_cons_succ]
       all_goals
        refine wpAnyH_ready (rs:=[21]) Kl Ss ?_
        refine AllReadyH.cons rfl (λK hK=>?_) AllReadyH.nil
        go_simp
        go_at_call 204
        refine(KN.o _).mono ?_
        rintro e w9 ⟨rfl,l0⟩
        have g5:Bl W7 w9:=bt c9 l0
        obtain⟨⟨n1,n2⟩,⟨n3,n4⟩,⟨n5,n6⟩,⟨n7,n8⟩,n9,n10⟩:=FX.o w9 g5
        go_wp2_with fail
        refine hK.out _ _ (KP.o _ g5) (λa8=>?_)
        clear hK K
        try simp only[Act.put,List.setIfInBounds_toArray,List.set_cons_zero,List.set_cons_succ]
        refine wTk 22 ?_
        try simp only[Act.put,List.setIfInBounds_toArray]
        refine wpAnyH_ready (rs:=[23]) Kl Ss ?_
        refine AllReadyH.cons rfl (λK hK=>?_) AllReadyH.nil
        go_simp
        refine hK.out _ _ (KQ.o _ g5) (λa8=>?_)
        clear hK K
        try simp only[Act.put,List.setIfInBounds_toArray,List.set_cons_zero,List.set_cons_succ]
        refine wpAnyH_done Kl ?_ _
        go_wp2_with fail
        go_meet
        exact⟨rfl,ay (Vy q7.o j6.o g4.o g5 O b9.o j5 d0.o q6 q9.o)⟩
      case rest=>
       obtain⟨rfl,hE⟩:=hcut;clear KT KN FX d1;go_wp2;go_roundw;exact⟨j+1,Oo,Oo,Gg,hE⟩;exact Im
     obtain rfl:j=n+1:=Oo;have s9:¬(((n+1:Nat):Int)<=(n:Int)):=Oo;have HX:=I;clear I;go_wp2;go_roundw;exact⟨r+1,Oo,Gg,ay ⟨HX.o.1,HX.o.2.1.congr (λi _ j hj=>qEf hj)⟩⟩;exact Im
   obtain rfl:r=n:=Oo;have i7:¬((r:Int)<(r:Int)):=Oo;have HX:=I;clear I;go_wp2;go_roundw;exact⟨c+1,Oo,Gg,ay ⟨HX.o.1,g',cp',_,_,_,_,_,HX.o.2.congr (λi hi j _=>if_pos hi),q3.o⟩⟩;exact Im
  obtain rfl:p=n:=Oo;have i3:¬((p:Int)<(p:Int)):=Oo;have HN:Hh (¬Cov.Kern p (L.map Dem.dm)):=ay (qCM c8.o.1 HJ.o M HZ.o);go_wp2;go_ret2;exact⟨Or.inl ⟨rfl,HN.o⟩,HB.o⟩
 obtain rfl:c=n:=Oo;have i2:¬((c:Int)<(c:Int)):=Oo;obtain⟨r3,t0⟩:=Cov.gj_end HJ.o;obtain⟨x,hx⟩:=Ex (λi=>T (s i) (c+c):Nat->Rat);have HG:Hh (∀i,i<c->R i i≠0/\R i c / R i i=x i):=ay (λi hi=>by rw[hx];exact r3 i hi);have HR:Hh (Parts c x/\VO c L x/\Cov.Kern c (L.map Dem.dm)):=ay (by
  rw[hx];exact⟨qEk HJ.o HW.o hn,qF0 c8.o.1 HJ.o,qF1 c8.o.1 HJ.o⟩)
 have r4:Hh (∀i,i<c->∀j,j<=c->Sm 25401600 (R i j)):=ay (λi hi j hj=>qDS HJ.o HW.o hn hi hj);clear r3 t0 hx HJ HW c8;obtain⟨j0,hj,t3,t4,t5⟩:=info_parts Tryz.infoRatS;go_wp2;go_loopw [18,19] (λv t wr=>∃(k:Nat) (vx:Value),k<=c/\t=ai k/\vx=v/\Hh (Bl W3 wr/\wr.ownsRow W3.1.size 36 2 vx k (rcs (prs k x)))) (λ_ t _=>c-(intOf t).toNat);exact⟨0,_,nZ _,rfl,rfl,ay ⟨aK,oM W3 #[] 0 (nR _) Dd rfl⟩⟩;obtain⟨k,vx,hk,rfl,rfl,I⟩:=hrel;have g6:=ay I.o.1;have a9:=I.o.2;clear I;by_cases b8:k<c
 ·have i3:(k:Int)<(c:Int):=Oo;have i4:(c:Int)<(c:Int)+1:=Oo;have i5:(k:Int)<(c:Int)+1:=Oo;have KO:Hh (∀W,Cl 203 #[.agg #[ai (R k c).num,ai (R k c).den],.agg #[ai (R k k).num,ai (R k k).den]] W λe w'=>e=.returned (.agg #[ai (x k).num,ai (x k).den])/\Bl W w'):=ay (λW=>by
   have:=qDW (R k c) (R k k) W (r4.o k b8 c (nR _)) (r4.o k b8 k Oo) Dd (HG.o k b8).1;rw[(HG.o k b8).2]at this;exact this)
  have FX:Hh (∀W,Bl wr W->W.cell? (az G k)=some (.slice (some (az (g k) 0)) (c+1) (cp k))/\W.cell? (az (g k) (c*2))=some (ai (R k c).num)/\W.cell? (az (g k) (c*2+1))=some (ai (R k c).den)/\W.cell? (az (g k) (k*2))=some (ai (R k k).num)/\W.cell? (az (g k) (k*2+1))=some (ai (R k k).den)):=ay (λW hW=>by
   have h:=HM.o.below (bt g6.o hW);exact⟨h.head b8,(h.row k b8).num (nR _),(h.row k b8).den (nR _),(h.row k b8).num Oo,(h.row k b8).den Oo⟩)
  obtain⟨k1,k2,k3,k4,k5⟩:=FX.o wr (bJ _ _);have t6:Hh (rcs (prs (k+1) x)=rcs (prs k x)++[ai (x k).num,ai (x k).den]):=ay (ZA k x);generalize (x k).num=z1 at *;generalize (x k).den=z2 at *;have d1:Bl wr wr.drew:=(bJ _ _).drew;have w4:=g6.o.size;go_upto_region 39 with fail;go_region_law (first
   |(refine step_append_lies _ Fl _ _ _ Fl W3.1.size 36 j0 (.agg #[ai 0,ai 0]) 2 16 Tryz.underlying35 hj t3 t4 t5 rfl Dd vx k (rcs (prs k x)) Fl ((qB a9 b0).alloc _) (az w9.1.size 0) 1 1 [ai z1,ai z2] Fl Fl (qDP _ _ _ _) (λu hu=>by simp at hu;rcases hu with rfl|rfl <;> rfl) Dd Um Oo (by have:=b0.size;simp;omega) (w9.1.size+1) Ss ?_;intro g3 cp3 r5 d9 a3 r6 r7)
   |(go_simp;go_at_call 203;with_reducible refine(KO.o _).mono ?_;rintro e w9 ⟨rfl,l0⟩;have b0:Bl wr w9:=bt (by assumption) l0;obtain⟨m1,m2,m3,m4,m5⟩:=FX.o w9 b0))
  all_goals
   have HE:Hh (Bl W3 r5/\r5.ownsRow W3.1.size 36 2 (.slice (some (az g3 0)) (k+1) cp3) (k+1) (rcs (prs (k+1) x))):=ay ⟨zT (by have:=b0.size;omega) (qB a9 b0) (bt g6.o b0) a3,by rw[t6.o];exact d9⟩
   clear d9 a3 r6 r7
   go_wp2
   go_roundw;exact⟨k+1,_,Oo,Gg,rfl,HE⟩;exact Im
 obtain rfl:k=c:=Oo;have i3:¬((k:Int)<(k:Int)):=Oo;have r8:IR wr vx (prs k x):=Qj (B:=W3.1.size) (by rw[qc];exact a9);have t7:=ay r8;clear a9 r8;go_wp2;go_ret2;exact⟨Or.inr ⟨_,x,rfl,t7.o,HR.o⟩,bt HB.o g6.o⟩
end Go.Proofs.YtcnfapnfmnolbaaGreat
