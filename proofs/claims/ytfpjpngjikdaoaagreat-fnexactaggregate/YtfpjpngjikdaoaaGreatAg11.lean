import Derived.Test.YtfpjpngjikdaoaaGreatAg07
set_option maxHeartbeats 40000000
set_option maxRecDepth 1000000
set_option linter.defProp false
open List Go.World
open List renaming length->E,getD->U
open Array renaming size->J
open Go.World renaming alloc->S,setCell->sW,cell?->eQ,ownsRow->oW
open Go.Value renaming slice->Z,bool->oB,agg->aQ
open Go.Obj renaming cells->eZ
open Go.Ending renaming returned->rE
open Option renaming some->Q
open Bool renaming false->nF
open Go renaming World->oX,Value->oV,wpAnyH_ready->tB
namespace Go.Proofs.YtfpjpngjikdaoaaGreat
open Go.Proofs.Tryz Go.RowKit
variable {c i j k n r p:Nat}{R:NQ}{t:TypeId}{v:oV}{w:oX}
def Tryz.infoRS:(Tryz.prog.info? 36).map (λi=>(i.zero,i.size,i.bytes))=Q (Q sn,1,24):=Kl
def wTk{P ops}{iQ:Exit->Act->WP}{K}{sS:WP}i{M fuel I a}(h:wpAnyH P K ops iQ sS fuel (I.setIfInBounds i true) (a.put M.dst v) w)(hi:ops[i]?=Q M:=by exact rfl)(hs:Region.noSelect ops:=by kernel_rfl)(V:Region.free K ops I i:=by kernel_rfl)(hr:(Region.ready K ops I).contains i:=by kernel_rfl)(hQ:∀c a w,iQ (.panic c) (a.put M.dst v) w->iQ (.panic c) a w:=by exact λ_ _ _ h=>h)(hy:YieldsIf P ops sS M v a:=by refine Or.inl ⟨Fl,?_⟩;(intro w O;(try dsimp only at O);go_simp) <;> with_reducible rfl)(hS:sS w:=by assumption):wpAnyH P K ops iQ sS (fuel+1) I a w:=wpAnyH_take hi hs V hr hQ hy hS h
def qIO(n:Nat)(L:List Dem)(e:Ending)(w':oX):Prop:=
 (e=rE (.tuple #[sn,oB nF])/\¬Cov.Kern n (L.map Dem.dm))\/
 ∃v x,e=rE (.tuple #[v,oB true])/\IR w' v (prs n x)/\Parts n x/\Ub n L x/\Cov.Kern n (L.map Dem.dm)
def jD(pl:LN)(j:Nat):NR:=λi=>if i∈pl.take j then 1 else 0
def qD5{pl}(h:j<E pl):(λi=>if i=U pl j 0 then (1:Rat) else jD pl j i)=jD pl (j+1):=by
 funext i;unfold jD;by_cases e:i=U pl j 0;rw[fE e,fE ((uf pl j h i).2 (Or.inr e))];rw[fF e];by_cases I:i∈pl.take j;rw[fE I,fE ((uf pl j h i).2 (Or.inl I))];rw[fF I,fF (λM=>by rcases (uf pl j h i).1 M with K|K;exact I K;exact e K)]
def qGk{L d}(hd:U L k vV=d):∀j,j<=n->(λi=>if i=n then ((d.bd:Int):Rat) else jD d.pl (E d.pl) i) j=zY n L k j:=by
 intro j I;unfold zY jD;rw[hd,tL]
def ux(R:NQ)(c r:Nat):NQ:=λi k=>if i<r then Cov.elim R c i k else R i k
def uS(R:NQ)(c r j:Nat):NQ:=λi k=>if i<r\/(i=r/\k<j) then Cov.elim R c i k else R i k
def qFK R c i k:R i k=ux R c 0 i k:=(fF Oo).symm
def JF(h:r=c\/R r c=0)i k:ux R c r i k=ux R c (r+1) i k:=by
 unfold ux;by_cases e:i=r;subst e;rw[fF Oo,fE Oo];unfold Cov.elim;rw[fE (by rcases h with h|h;exact Or.inl h;exact Or.inr (Or.inl h))];by_cases I:i<r;rw[fE I,fE Oo];rw[fF I,fF Oo]
def qD6 R c r i k:ux R c r i k=uS R c r c i k:=by
 unfold ux uS;by_cases e:i<r;rw[fE e,fE (Or.inl e)];rw[fF e];by_cases I:i=r/\k<c;rw[fE (Or.inr I)];unfold Cov.elim;rw[fE (Or.inr (Or.inr I.2))];rw[fF (λh=>by rcases h with h|h;exact e h;exact I h)]
def qFL(K:r≠c)(M:R r c≠0)(V:c<=j)i k:(if i=r/\k=j then R r j-R r c / R c c*R c j else uS R c r j i k)=uS R c r (j+1) i k:=by
 unfold uS;by_cases e:i=r/\k=j;rw[fE e,fE (Or.inr ⟨e.1,Oo⟩)];unfold Cov.elim;rw[e.1,e.2,fF (λh=>by rcases h with h|h|h;exact K h;exact M h;omega)];rw[fF e];by_cases I:i<r\/(i=r/\k<j);rw[fE I,fE (by rcases I with h|h;exact Or.inl h;exact Or.inr ⟨h.1,Oo⟩)];rw[fF I,fF (λh=>by
  rcases h with h|h;exact I (Or.inl h);by_cases O:k=j;exact e ⟨h.1,O⟩;exact I (Or.inr ⟨h.1,Oo⟩))]
def qGl(K:k<=n):uS R c r (n+1) i k=ux R c (r+1) i k:=by
 unfold uS ux;by_cases e:i<r+1;rw[fE e,fE (by by_cases I:i<r;exact Or.inl I;exact Or.inr ⟨Oo,Oo⟩)];rw[fF e,fF (λh=>by rcases h with h|h <;> omega)]
def qBZ R c r j k:uS R c r j c k=R c k:=by
 unfold uS;split;unfold Cov.elim;rw[fE (Or.inl rfl)];rfl
def qGm R c r j:uS R c r j r j=R r j:=fF (λh=>by rcases h with h|h <;> omega)
def qBa R c r k:ux R c r c k=R c k:=by
 unfold ux;split;unfold Cov.elim;rw[fE (Or.inl rfl)];rfl
def Yb R c r k:ux R c r r k=R r k:=fF Oo
def qBb(I:c<n)(K:p<n)(hi:i<n):∃k,k<n/\Cov.swpR R c p i=R k:=by
 unfold Cov.swpR;split;exact⟨p,K,rfl⟩;split;exact⟨c,I,rfl⟩;exact⟨i,hi,rfl⟩
def Ua R c p:Cov.swpR R c p c=R p:=fE rfl
def qGn k x:prs (k+1) x=prs k x++[((x k).num,((x k).den:Int))]:=by
 unfold prs;rw[dQ,mA];rfl
def XB k x:rcs (prs (k+1) x)=rcs (prs k x)++[.int .i64 (x k).num,.int .i64 (x k).den]:=by
 rw[qGn];simp[rcs]
section
variable {w W5 w6:oX} {G n:Nat} {g cp:NN} {R:NQ}
def kU{o}(h:Below (S W5 o).drew.1.size (S W5 o).drew w6):Bl W5 w6:=
 bt ((bJ _ _).alloc (nR _) o) (qf h)
def qBc{x y}(h:Below (S W5 (eZ #[.int .i64 x,.int .i64 y] t)).drew.1.size (S W5 (eZ #[.int .i64 x,.int .i64 y] t)).drew w6):Two w6 (J W5.1) x y:=
 (jK _ x y t).zz Ss (qf h)
def qFM(K:Bl w W5)(M:Mat W5 (J w.1) G n g cp R)(I:Bl W5 w6){x y}:
 Bl w (S w6 (eZ #[.int .i64 x,.int .i64 y] t))/\Mat (S w6 (eZ #[.int .i64 x,.int .i64 y] t)) (J w.1) G n g cp R/\Two (S w6 (eZ #[.int .i64 x,.int .i64 y] t)) (J w6.1) x y/\(∀i,i<n->g i≠J w6.1)/\J w.1<=J w6.1:=by
 have O:=bt K I;have V:=M.zz I;exact⟨O.alloc O.size _,V.zz (aK),jK _ x y t,λi hi e=>by have:=(V.M i hi).lt;omega,O.size⟩
def qD7(I:Bl w W5)(K:Mat W5 (J w.1) G n g cp R){a b}(h:Below (S W5 (eZ #[.int .i64 a,.int .i64 b] t)).drew.1.size (S W5 (eZ #[.int .i64 a,.int .i64 b] t)).drew w6){x y}:
 Bl w (sW (sW w6 (az (J W5.1) 0) (.int .i64 x)) (az (J W5.1) 1) (.int .i64 y))/\Mat (sW (sW w6 (az (J W5.1) 0) (.int .i64 x)) (az (J W5.1) 1) (.int .i64 y)) (J w.1) G n g cp R/\Two (sW (sW w6 (az (J W5.1) 0) (.int .i64 x)) (az (J W5.1) 1) (.int .i64 y)) (J W5.1) x y/\(∀i,i<n->g i≠J W5.1)/\J w.1<=J W5.1:=by
 have M:=kU h;have hs:=I.size;exact⟨((bt I M).setCell hs _).setCell hs _,K.zz ((M.setCell (nR _) _).setCell (nR _) _),(qBc h).set x y,λi hi e=>by have:=(K.M i hi).lt;omega,hs⟩
def JG{O I gf iQ}{f z:Rat}(a4:Bl w O)(a5:Mat O (J w.1) G n g cp (uS iQ c r j))(V:Two O gf f.num f.den)(K:Bl O I)(M:r<n)(a6:∀i,i<n->g i≠gf)(a7:r≠c)(a8:iQ r c≠0)(a9:c<=j)(hz:z=iQ r j-iQ r c / iQ c c*iQ c j):
 Bl w (sW (sW I (az (g r) (j*2)) (.int .i64 z.num)) (az (g r) (j*2+1)) (.int .i64 z.den))/\Mat (sW (sW I (az (g r) (j*2)) (.int .i64 z.num)) (az (g r) (j*2+1)) (.int .i64 z.den)) (J w.1) G n g cp (uS iQ c r (j+1))/\Two (sW (sW I (az (g r) (j*2)) (.int .i64 z.num)) (az (g r) (j*2+1)) (.int .i64 z.den)) gf f.num f.den:=by
 have a3:=a5.zz K;have hb:=a3.zx.2 r M;refine⟨((bt a4 K).setCell hb _).setCell hb _,(a3.set M j z).V (λi _ k _=>?_),?_⟩;rw[hz];exact qFL a7 a8 a9 i k;have ht:=V.zz (bL O _ V.1) K;have hg:gf≠g r:=λe=>a6 r M e.symm;have hq:(sW (sW I (az (g r) (j*2)) (.int .i64 z.num)) (az (g r) (j*2+1)) (.int .i64 z.den)).1[gf]?=I.1[gf]?:=(bD _ _ _ _ hg).trans (bD _ _ _ _ hg);exact⟨(bF (w:=I) (a:=(az gf 0)) hq).trans ht.1,(bF (w:=I) (a:=(az gf 1)) hq).trans ht.2.1,(dA (w:=I) (a:=(az gf 0)) hq).trans ht.2.2.1,(dA (w:=I) (a:=(az gf 1)) hq).trans ht.2.2.2⟩
end
def qFN{u}:∀j x,[v,u][j]?=Q x->(S w (eZ #[v,u] t)).cell? (((az (J w.1) 0):Addr).add j)=Q x:=by
 intro j x I;match j,I with
 |0,I=>simp at I;subst I;simp[Addr.add]
 |1,I=>simp at I;subst I;simp[Addr.add]
def ZP w vc n{ps}(t9:1<=n)(hn:n<=7)(hl:E ps=n)(hc:DP w vc ps)(h6:∀p∈ps,xG n p.2):
 Cl 143 #[.int .i64 n,vc] w λe w'=>qIO n (ps.map Prod.snd) e w'/\Bl w w':=by
 obtain⟨i0,hi,V,r9,s3⟩:=aX Tryz.infoRS;obtain⟨L,hL⟩:=Ex (ps.map Prod.snd);rw[<-hL];have KZ:=ay (λW=>by
  have:=J1 W (n+1) Oo;rwa[show((n+1:Nat):Int)=(n:Int)+1 by omega]at this)
 obtain⟨⟨a,cap,rfl,d4⟩,d5⟩:=hc;have e8:∃b o,a=Q (az b o)/\∀j u,(dcs ps)[j]?=Q u->eQ w (az b (o+j))=Q u:=by
  rcases d4 with h0|h;omega;exact h
 obtain⟨b,o,rfl,e9⟩:=e8;have l8:Hh (∀k,k<n->∃u d,U L k vV=d/\xG n d/\IntsAt w u d.pl/\eQ w (az b (o+k*3))=Q u/\eQ w (az b (o+k*3+1))=Q (oB d.up)/\eQ w (az b (o+k*3+2))=Q (.int .i64 d.bd)):=ay (λk hk=>by
  have hm:U ps k pd0∈ps:=yL Oo;obtain⟨h1,h2,h3⟩:=XP ps k Oo;exact⟨(U ps k pd0).1,(U ps k pd0).2,by rw[hL];exact QL ps k,h6 _ hm,d5 _ hm,e9 _ _ h1,e9 _ _ h2,e9 _ _ h3⟩)
 have d0:Hh (E L=n/\∀D∈L,xG n D):=ay ⟨by rw[hL,lM];exact hl,λD hD=>by
  rw[hL]at hD;obtain⟨p,hp,rfl⟩:=cC.1 hD;exact h6 p hp⟩
 rw[hl];clear d4 e9 d5 h6 hL hl;go_enter func143,ntmps143;go_wp2;go_loopw [6,23] (λv t wr=>∃(k:Nat) (vr:oV),k<=n/\t=.int .i64 k/\vr=v/\Hh (Bl w wr/\∃vs g cp,Rws wr (J w.1) n k vr vs g cp (zY n L))) (λ_ t _=>n-(intOf t).toNat);exact⟨0,_,nZ _,rfl,rfl,ay ⟨aK,[],λ_=>0,λ_=>0,oM w #[] 0 (nR _) Dd rfl,rfl,λi hi=>Oo,λi hi=>Oo,λi hi=>Oo,λi hi=>Oo⟩⟩;obtain⟨k,vr,hk,rfl,rfl,I⟩:=hrel;obtain⟨b8,vs,g,cp,hR⟩:=I.o;have d6:=ay b8;have HR:=ay hR;by_cases s4:k<n
 .have i1:(k:Int)<n:=Oo;obtain⟨u,d,hd,hdk,hu,e1,e2,e3⟩:=l8.o k s4;have c1:=(b8.cell (p:=(az b (o+k*3))) (bL w _ e1)).trans e1;have c2:=(b8.cell (p:=(az b (o+k*3+1))) (bL w _ e2)).trans e2;have c3:=(b8.cell (p:=(az b (o+k*3+2))) (bL w _ e3)).trans e3;have HD:=ay hd;have s5:=ay hdk;have HU:=ay hu;obtain⟨au,cu,rfl,l9⟩:=hu;have s6:=ay l9;obtain⟨m,hm⟩:=Ex (E d.pl);have HM:=ay hm;have v6:m<=7:=by rw[hm];exact hdk.C
  have v7:-1<=d.bd/\d.bd<=1:=by rcases hdk.bd with h|h <;> omega
  rw[<-hm]at c1;clear hd hdk e1 e2 e3 l9 hm b8 hR I HU;go_upto_region 6 with (go_at_call 171;apply (KZ.o _).mono;rintro e w1 ⟨v1,rfl,d7,h7⟩);obtain⟨c,cc,rfl,hc1,s7,g8⟩:=qGL d7;have m0:ArrAt (S wr (eZ #[Z au m cu,oB d.up,.int .i64 d.bd] 156)) (J wr.1) 3 (f3 (Z au m cu) (oB d.up) (.int .i64 d.bd)):=qj wr 3 (f3 (Z au m cu) (oB d.up) (.int .i64 d.bd)) 156;have f7:=m0.zz Oo h7;have h8:=bt (aK) h7;have o4:=HR.o.zz h8;have o5:∀i,i<k->g i≠c:=λi hi e=>by
   have:=(HR.o.M i hi).lt;have h2:J wr.1<J (S wr (eZ #[Z au m cu,oB d.up,.int .i64 d.bd] 156)).1:=Ss;omega
  have h9:J wr.1≠c:=λe=>by
   have h2:J wr.1<J (S wr (eZ #[Z au m cu,oB d.up,.int .i64 d.bd] 156)).1:=Ss;omega
  have d8:J w.1<=c:=by
   have h2:J wr.1<J (S wr (eZ #[Z au m cu,oB d.up,.int .i64 d.bd] 156)).1:=Ss;have:=d6.o.size;omega
  have o6:=bt d6.o h8;obtain⟨gd,o7⟩:=Ex (J wr.1);rw[<-o7]at f7 h9 |-;have HX:Hh (Bl w w1/\Rws w1 (J w.1) n k vr vs g cp (zY n L)/\ArrAt w1 gd 3 (f3 (Z au m cu) (oB d.up) (.int .i64 d.bd))/\RowAt w1 c n (jD d.pl 0)):=ay ⟨o6,o4,f7,by
   have:jD d.pl 0=λ_=>0:=by funext i;unfold jD;rw[take_zero,fF Ss]
   rw[this];exact g8⟩
  have c8:=ay o5;obtain⟨p0,p1,p2⟩:=f7.three;clear d7 h7 m0 f7 h8 o4 o5 o6 g8 hc1 s7 o7 HR d6 c1 c2 c3;go_wp2;go_loopw [33] (λt wr=>∃j:Nat,j<=m/\t=.int .i64 j/\Hh (Bl w wr/\Rws wr (J w.1) n k vr vs g cp (zY n L)/\ArrAt wr gd 3 (f3 (Z au m cu) (oB d.up) (.int .i64 d.bd))/\RowAt wr c n (jD d.pl j))) (mZ m);exact⟨0,nZ _,rfl,HX⟩;obtain⟨j,hj,rfl,I⟩:=hrel;clear HX p0 p1 p2;by_cases o8:j<m
  .have i2:(j:Int)<m:=Oo;obtain⟨b3,o3,rfl,hy⟩:=s6.o j (by rw[<-HM.o];exact o8);have f8:j<E d.pl:=by rw[<-HM.o];exact o8
   have g9:U d.pl j 0∈d.pl:=yL f8;have s8:=s5.o.lt _ g9;have HS:=ay (qD5 f8);have y1:=(I.o.1.cell (p:=(az b3 (o3+j))) (bL w _ hy)).trans hy;obtain⟨q,hq⟩:=Ex (U d.pl j 0);rw[<-hq]at s8 HS y1;have i3:(q:Int)<n+1:=Oo;have f1:=RwIs.L I.o.2.2.2 (q*2);have f2:=RwIs.L I.o.2.2.2 (q*2+1);have t1:=I.o.2.2.2.num (j:=q) Oo;have t2:=I.o.2.2.2.den (j:=q) Oo;have HF:Hh (∀W',W'=sW (sW wr (az c (q*2)) (.int .i64 1)) (az c (q*2+1)) (.int .i64 1)->Bl w W'/\Rws W' (J w.1) n k vr vs g cp (zY n L)/\ArrAt W' gd 3 (f3 (sZ b3 o3 m cu) (oB d.up) (.int .i64 d.bd))/\RowAt W' c n (jD d.pl (j+1))):=ay (λW' e=>by
    subst e;obtain⟨h1,h2,h3,h4⟩:=I.o;refine⟨(h1.setCell d8 _).setCell d8 _,(h2.other h4 c8.o _ _).other (RwIs.set h4 _ _) c8.o _ _,(h3.A (bD _ _ _ _ h9)).A (bD _ _ _ _ h9),?_⟩;rw[<-HS.o];exact h4.set q 1)
   clear hy hq g9 f8 I;go_wp2;go_roundw;exact⟨j+1,Oo,Gg,ay (HF.o _ rfl)⟩;exact Im
  obtain rfl:j=m:=Oo;have i2:¬((j:Int)<j):=Oo;have i3:(n:Int)<n+1:=Oo;obtain⟨p0,p1,p2⟩:=I.o.2.2.1.three;have f1:=RwIs.L I.o.2.2.2 (n*2);have f2:=RwIs.L I.o.2.2.2 (n*2+1);have t1:=I.o.2.2.2.num (j:=n) Oo;have t2:=I.o.2.2.2.den (j:=n) Oo;have HF:Hh (∀W',W'=sW (sW wr (az c (n*2)) (.int .i64 d.bd)) (az c (n*2+1)) (.int .i64 1)->Bl w W'/\Rws W' (J w.1) n k vr vs g cp (zY n L)/\∃r,RowAt W' c n r/\∀j,j<=n->r j=zY n L k j):=ay (λW' e=>by
   subst e;obtain⟨h1,h2,h3,h4⟩:=I.o;refine⟨(h1.setCell d8 _).setCell d8 _,(h2.other h4 c8.o _ _).other (RwIs.set h4 _ _) c8.o _ _,_,h4.set n (((d.bd:Int):Rat)),?_⟩;rw[HM.o];exact qGk HD.o)
  clear I;go_upto_region 12 with fail;obtain⟨W',j1⟩:=Ex (sW (sW wr (az c (n*2)) (.int .i64 d.bd)) (az c (n*2+1)) (.int .i64 1));obtain⟨h1,h2,r,h4,h5⟩:=HF.o _ j1;rw[<-j1];clear j1 HF p0 p1 p2 f1 f2 t1 t2;have b1:=h2.z;go_wp2_with (first
   |(at_builtin;refine eP _ rfl _ _ 241 rfl (J w.1) 36 i0 sn 1 24 underlying241 hi V r9 s3 rfl Dd _ _ _ rfl (b1.alloc _) (az (J W'.1) 0) 1 1 [sZ c 0 (n+1) cc] rfl rfl ?c1 ?c2 ?c3 ?c4 ?c5 ?_))
  case c2=>rfl
  case c3=>unfold maxLen;omega
  case c4=>omega
  case c5=>have:=h1.size;simp;omega
  intro v' w3 d9 a8 _;have hst:=h2.P h4 d8 c8.o h5 d9 a8;have o9:=zW h1.size h2.z h1 a8;have HF:Hh (Bl w w3/\∃vs g cp,Rws w3 (J w.1) n (k+1) v' vs g cp (zY n L)):=ay ⟨o9,_,_,_,hst⟩;clear hst o9 b1 d9 a8 h1 h2 h4 h5;go_wp2;go_roundw;exact⟨k+1,_,Oo,Gg,rfl,HF⟩;exact Im
 obtain rfl:n=k:=Oo;have i1:¬((n:Int)<n):=Oo;obtain⟨G,cG,s9,p3⟩:=HR.o.mat Oo;subst s9;have p4:Hh (Bl w wr/\∃g cp R T B s piv,Mat wr (J w.1) G n g cp R/\Cov.GJ n 0 (zY n L) R T B s piv):=ay ⟨d6.o,g,cp,_,_,_,_,_,p3,Cov.gj_start n _⟩;have HW:Hh (∀j,j<=n->∀r,r<n->Cov.Whole 1 (zY n L r j)):=ay (λj _ r hr=>qCO d0.o.2 (by rw[d0.o.1];exact hr));clear p3 HR d6 I b8 hR KZ l8;go_wp2;go_loopw [12] (λt wr=>∃c:Nat,c<=n/\t=.int .i64 c/\Hh (Bl w wr/\∃g cp R T B s piv,Mat wr (J w.1) G n g cp R/\Cov.GJ n c (zY n L) R T B s piv)) (mZ n);exact⟨0,nZ _,rfl,p4⟩;clear p4 g cp vs;obtain⟨c,hc,rfl,I⟩:=hrel;obtain⟨b8,g,cp,R,T,B,s,piv,hM,hJ⟩:=I.o;generalize wr=W3 at *;have HB:=ay b8;have HM:=ay hM;have HJ:=ay hJ;clear b8 hM hJ I;by_cases M:c<n;rotate_left
 .obtain rfl:c=n:=Oo;have i2:¬((c:Int)<c):=Oo;obtain⟨r3,t3⟩:=Cov.gj_end HJ.o;obtain⟨x,hx⟩:=Ex (λi=>T (s i) (c+c):NR);have HG:Hh (∀i,i<c->R i i≠0/\R i c / R i i=x i):=ay (λi hi=>by rw[hx];exact r3 i hi);have HR:Hh (Parts c x/\Ub c L x/\Cov.Kern c (L.map Dem.dm)):=ay (by
   rw[hx];exact⟨qGq HJ.o HW.o hn,qIP d0.o.1 HJ.o,qIQ d0.o.1 HJ.o⟩)
  have r4:Hh (∀i,i<c->∀j,j<=c->Sm 25401600 (R i j)):=ay (λi hi j hj=>qFQ HJ.o HW.o hn hi hj);clear r3 t3 hx HJ HW d0;obtain⟨j0,hj,t4,t5,t6⟩:=aX Tryz.infoRatS;go_wp2;go_loopw [18,19] (λv t wr=>∃(k:Nat) (vx:oV),k<=c/\t=.int .i64 k/\vx=v/\Hh (Bl W3 wr/\oW wr (J W3.1) 37 2 vx k (rcs (prs k x)))) (λ_ t _=>c-(intOf t).toNat);exact⟨0,_,nZ _,rfl,rfl,ay ⟨aK,oM W3 #[] 0 (nR _) Dd rfl⟩⟩;obtain⟨k,vx,hk,rfl,rfl,I⟩:=hrel;have g7:=ay I.o.1;have b1:=I.o.2;clear I;by_cases c7:k<c
  .have i3:(k:Int)<c:=Oo;have i4:(c:Int)<c+1:=Oo;have i5:(k:Int)<c+1:=Oo;have KO:=ay (λW=>by
    have:=qFU (R k c) (R k k) W (r4.o k c7 c (nR _)) (r4.o k c7 k Oo) Dd (HG.o k c7).1;rwa[(HG.o k c7).2]at this)
   have FX:Hh (∀W,Bl wr W->eQ W (az G k)=Q (sZ (g k) 0 (c+1) (cp k))/\eQ W (az (g k) (c*2))=Q (.int .i64 (R k c).num)/\eQ W (az (g k) (c*2+1))=Q (.int .i64 (R k c).den)/\eQ W (az (g k) (k*2))=Q (.int .i64 (R k k).num)/\eQ W (az (g k) (k*2+1))=Q (.int .i64 (R k k).den)):=ay (λW hW=>by
    have h:=HM.o.zz (bt g7.o hW);exact⟨h.head c7,(h.M k c7).num (nR _),(h.M k c7).den (nR _),(h.M k c7).num Oo,(h.M k c7).den Oo⟩)
   obtain⟨k1,k2,k3,k4,k5⟩:=FX.o wr (bJ _ _);have t7:=ay (XB k x);generalize (x k).num=z1 at *;generalize (x k).den=z2 at *;have d3:Bl wr wr.drew:=(bJ _ _).drew;have w5:=g7.o.size;go_upto_region 39 with fail;go_region_law (first
    |(refine step_append_lies _ Fl _ _ _ Fl (J W3.1) 37 j0 (aQ #[.int .i64 0,.int .i64 0]) 2 16 underlying36 hj t4 t5 t6 rfl Dd vx k (rcs (prs k x)) Fl ((qB b1 b7).alloc _) (az (J w9.1) 0) 1 1 [.int .i64 z1,.int .i64 z2] Fl Fl (qFN) (λu hu=>by simp at hu;rcases hu with rfl|rfl <;> rfl) Dd Um Oo (by have:=b7.size;simp;omega) (J w9.1+1) Ss ?_;intro g3 cp3 r5 e7 a8 r6 r7)
    |(go_simp;go_at_call 172;with_reducible apply (KO.o _).mono;rintro e w9 ⟨rfl,l7⟩;have b7:=bt (by assumption) l7;obtain⟨m1,m2,m3,m4,m5⟩:=FX.o w9 b7))
   all_goals
    have HE:Hh (Bl W3 r5/\r5.ownsRow (J W3.1) 37 2 (sZ g3 0 (k+1) cp3) (k+1) (rcs (prs (k+1) x))):=ay ⟨zW (O1 b7.size) (qB b1 b7) (bt g7.o b7) a8,by rw[t7.o];exact e7⟩
    clear e7 a8 r6 r7
    go_wp2
    go_roundw;exact⟨k+1,_,Oo,Gg,rfl,HE⟩;exact Im
  obtain rfl:k=c:=Oo;have i3:¬((k:Int)<k):=Oo;have r8:=Zh (B:=J W3.1) (by rw[qi];exact b1);have t8:=ay r8;clear b1 r8;go_wp2;go_ret2;exact⟨Or.inr ⟨_,x,rfl,t8.o,HR.o⟩,bt HB.o g7.o⟩
 have i2:(c:Int)<n:=Oo;have i4:(c:Int)<n+1:=Oo;go_wp2;go_loopw [13] (λt wr=>∃p:Nat,c<=p/\p<=n/\t=.int .i64 p/\Hh (wr=W3/\∀q,c<=q->q<p->R q c=0)) (mZ n);exact⟨c,nR _,hc,rfl,ay ⟨rfl,λq h1 h2=>Oo⟩⟩;obtain⟨p,j2,v8,rfl,hP⟩:=hrel;obtain rfl:W3=wr:=hP.o.1.symm;have HZ:=ay hP.o.2;clear hP;by_cases c9:p<n
 .have i3:(p:Int)<n:=Oo;have e1:=HM.o.head c9;have e2:=(HM.o.M p c9).num (j:=c) Oo;by_cases V:R p c=0
  .have a3:(R p c).num=0:=by rw[V];rfl
   rw[a3]at e2;have d2:=ay V;clear a3 V;go_wp2;go_roundw
   case rel=>exact⟨p+1,Oo,Oo,Gg,ay ⟨by trivial,λq h1 h2=>by
    by_cases e:q=p;rw[e];exact d2.o;exact HZ.o q h1 Oo⟩⟩
   case measure=>exact Im
  have a3:¬(R p c).num=0:=Za V;have j3:((R p c).num == 0)=false:=by simp[a3]
  have i5:¬((p:Int)=n):=Oo;have i6:((p:Int) == (n:Int))=false:=Sy;have e3:=HM.o.head M;obtain⟨u4,e4⟩:∃u,eQ (sW W3 (az G p) (sZ (g c) 0 (n+1) (cp c))) (az G c)=Q u:=⟨_,(HM.o.top.set p _).cell M⟩;have f1:=HM.o.top.L p;have f2:=HM.o.top.L c;have p5:=HM.o.swap M c9;have p6:Bl w (sW (sW W3 (az G p) (sZ (g c) 0 (n+1) (cp c))) (az G c) (sZ (g p) 0 (n+1) (cp p))):=(HB.o.setCell HM.o.zx.1 _).setCell HM.o.zx.1 _;have p7:∀i,i<n->∀j,j<=n->Sm 25401600 (Cov.swpR R c p i j):=λi hi j hj=>by
   obtain⟨k,hk,e⟩:=qBb (R:=R) M c9 hi;rw[e];exact qFQ HJ.o HW.o hn hk hj
  have p8:∀j,j<=n->Sm 5040 (Cov.swpR R c p c j):=λj hj=>by
   rw[Ua];exact qFP HJ.o HW.o hn j2 c9 hj
  have p9:∀i,i<n->Sm 25401600 (Cov.swpR R c p i c / Cov.swpR R c p c c):=λi hi=>by
   obtain⟨k,hk,e⟩:=qBb (R:=R) M c9 hi;rw[e,Ua];exact qJm HJ.o HW.o hn j2 c9 V hk
  have q0:Cov.swpR R c p c c≠0:=by rw[Ua];exact V
  have q1:=Cov.gj_step HJ.o HW.o j2 c9 V;have j4:=ay p7;have f9:=ay p8;have j5:=ay p9;have q2:=ay q0;have q3:=ay q1;have q4:=ay p5;have q5:=ay p6;clear p7 p8 p9 q0 q1 p5 p6 V;go_upto_region 25 with fail;generalize sW (sW W3 (az G p) (sZ (g c) 0 (n+1) (cp c))) (az G c) (sZ (g p) 0 (n+1) (cp p))=W4 at *;generalize Cov.swpR R c p=iQ at *;generalize Cov.swp g c p=g' at *;generalize Cov.swp cp c p=cp' at *;clear e1 e2 e3 e4 f1 f2 HM HB HZ a3 j3 HJ;go_wp2;go_loopw [95] (λt wr=>∃r:Nat,r<=n/\t=.int .i64 r/\Hh (Bl w wr/\Mat wr (J w.1) G n g' cp' (ux iQ c r))) (mZ n);exact⟨0,nZ _,rfl,ay ⟨q5.o,q4.o.V (λi _ j _=>qFK iQ c i j)⟩⟩;clear q4 q5;obtain⟨r,hr,rfl,I⟩:=hrel;by_cases O:r<n
  .have i7:(r:Int)<n:=Oo;generalize wr=W5 at *;by_cases j6:r=c
   .subst j6;have HX:=I;clear I;go_wp2;go_roundw;exact⟨r+1,Oo,Gg,ay ⟨HX.o.1,HX.o.2.V (λi _ j _=>JF (Or.inl rfl) i j)⟩⟩;exact Im
   have i8:¬((r:Int)=c):=Oo;have i9:((r:Int) == (c:Int))=false:=Sy;have g4:=ay I.o.1;have b9:=ay I.o.2;have e1:=I.o.2.head O;have e2:=(I.o.2.M r O).num (j:=c) Oo;rw[Yb]at e2;clear I;by_cases V:iQ r c=0
   .have a3:(iQ r c).num=0:=by rw[V];rfl
    rw[a3]at e2;have d2:=ay V;clear a3 V;go_wp2;go_roundw;exact⟨r+1,Oo,Gg,ay ⟨g4.o,b9.o.V (λi _ j _=>JF (Or.inr d2.o) i j)⟩⟩;exact Im
   have a3:¬(iQ r c).num=0:=Za V;have j3:((iQ r c).num == 0)=false:=by simp[a3]
   have d2:=ay V;have e3:=b9.o.head M;have e4:=(b9.o.M r O).den (j:=c) Oo;have e5:=(b9.o.M c M).num (j:=c) Oo;have e6:=(b9.o.M c M).den (j:=c) Oo;rw[Yb]at e4;rw[qBa]at e5 e6;have KO:=ay (λW=>qFU _ _ W (j4.o r O c Oo) (f9.o c Oo) Dd q2.o);obtain⟨f,hf⟩:=Ex (iQ r c / iQ c c);rw[<-hf]at KO;have HF:=ay hf;clear hf V;go_upto_region 29 with fail;go_cut [16] (λv wx=>∃gf,v=pZ gf 0/\Hh (Bl w wx/\Mat wx (J w.1) G n g' cp' (ux iQ c r)/\Two wx gf f.num f.den/\(∀i,i<n->g' i≠gf)/\J w.1<=gf))
   case first=>
    have FX:Hh (∀W,Bl W5 W->eQ W (az G r)=Q (sZ (g' r) 0 (n+1) (cp' r))/\eQ W (az G c)=Q (sZ (g' c) 0 (n+1) (cp' c))/\eQ W (az (g' r) (c*2))=Q (.int .i64 (iQ r c).num)/\eQ W (az (g' r) (c*2+1))=Q (.int .i64 (iQ r c).den)/\eQ W (az (g' c) (c*2))=Q (.int .i64 (iQ c c).num)/\eQ W (az (g' c) (c*2+1))=Q (.int .i64 (iQ c c).den)):=ay (λW hW=>by
     have h:=b9.o.zz hW;have a4:=(h.M r O).num (j:=c) Oo;have a5:=(h.M r O).den (j:=c) Oo;have a6:=(h.M c M).num (j:=c) Oo;have a7:=(h.M c M).den (j:=c) Oo;rw[Yb]at a4 a5;rw[qBa]at a6 a7;exact⟨h.head O,h.head M,a4,a5,a6,a7⟩)
    obtain⟨l1,l2,l3,l4,l5,l6⟩:=FX.o (S W5 (eZ #[.int .i64 0,.int .i64 0] 37)) (aK);go_region_law (first
     |(go_simp;go_at_call 172;apply (KO.o _).mono;rintro e w6 ⟨rfl,e0⟩;have b7:Bl W5 w6:=qf e0;obtain⟨k1,k2,k3,k4,k5,k6⟩:=FX.o w6 b7)
     |(go_simp;go_at_call 172;apply (KO.o _).mono;rintro e w6 ⟨rfl,e0⟩;have b7:=kU e0;obtain⟨z1,z2,z3,z4⟩:=qBc e0;obtain⟨k1,k2,k3,k4,k5,k6⟩:=FX.o w6 b7))
    all_goals
     go_wp2
     go_meet
     first
      |exact⟨_,rfl,ay (qFM g4.o b9.o b7)⟩
      |exact⟨_,rfl,ay (qD7 g4.o b9.o e0)⟩
   case rest=>
    obtain⟨gf,rfl,hX⟩:=hcut;clear e1 e2 e3 e4 e5 e6 KO b9 g4 a3 j3;generalize wc=W6 at *;go_wp2;go_loopw [17] (λt wr=>∃j:Nat,c<=j/\j<=n+1/\t=.int .i64 j/\Hh (Bl w wr/\Mat wr (J w.1) G n g' cp' (uS iQ c r j)/\Two wr gf f.num f.den)) (mZ (n+1));exact⟨c,nR _,Oo,rfl,ay ⟨hX.o.1,hX.o.2.1.V (λi _ j _=>qD6 iQ c r i j),hX.o.2.2.1⟩⟩;have c8:=ay hX.o.2.2.2.1;clear hX;obtain⟨j,q6,v9,rfl,I⟩:=hrel;by_cases f8:j<n+1
    .have t0:(j:Int)<=n:=Oo;have w2:(j:Int)<n+1:=Oo;have q7:=ay I.o.1;have k0:=ay I.o.2.1;have g5:=ay I.o.2.2;clear I;generalize wr=W7 at *;have FX:Hh (∀W,Bl W7 W->(eQ W (az G r)=Q (sZ (g' r) 0 (n+1) (cp' r))/\eQ W (az G c)=Q (sZ (g' c) 0 (n+1) (cp' c)))/\(eQ W (az (g' r) (j*2))=Q (.int .i64 (iQ r j).num)/\eQ W (az (g' r) (j*2+1))=Q (.int .i64 (iQ r j).den))/\(eQ W (az (g' c) (j*2))=Q (.int .i64 (iQ c j).num)/\eQ W (az (g' c) (j*2+1))=Q (.int .i64 (iQ c j).den))/\(eQ W (az gf 0)=Q (.int .i64 f.num)/\eQ W (az gf 1)=Q (.int .i64 f.den))/\W.frozen? (az (g' r) (j*2))=nF/\W.frozen? (az (g' r) (j*2+1))=nF):=ay (λW hW=>by
      have h:=k0.o.zz hW;have a4:=(h.M r O).num (j:=j) Oo;have a5:=(h.M r O).den (j:=j) Oo;have a6:=(h.M c M).num (j:=j) Oo;have a7:=(h.M c M).den (j:=j) Oo;rw[qGm]at a4 a5;rw[qBZ]at a6 a7;have ht:=g5.o.zz (bL W7 _ g5.o.1) hW;exact⟨⟨h.head O,h.head M⟩,⟨a4,a5⟩,⟨a6,a7⟩,⟨ht.1,ht.2.1⟩,RwIs.L (h.M r O) _,RwIs.L (h.M r O) _⟩)
     have KT:Hh (∀W,Cl 174 #[aQ #[.int .i64 f.num,.int .i64 f.den],aQ #[.int .i64 (iQ c j).num,.int .i64 (iQ c j).den]] W λe w'=>e=rE (aQ #[.int .i64 (f*iQ c j).num,.int .i64 (f*iQ c j).den])/\Bl W w'):=ay (λW=>qIW W (by rw[HF.o];exact j5.o r O) (f9.o j Oo) Dd);have KN:=ay (λW=>qIV W (j4.o r O j Oo) ((show Sm 25401600 f by rw[HF.o];exact j5.o r O).mul (f9.o j Oo)) Dd);have q8:Hh (iQ r j-f*iQ c j=iQ r j-iQ r c / iQ c c*iQ c j):=ay (by rw[HF.o]);generalize iQ r j-f*iQ c j=z at *;generalize f*iQ c j=y at *;have d3:Bl W7 W7.drew:=(bJ _ _).drew;have q9:=q8;clear q8;go_upto_block 11 with fail;go_cut [17] (λv wx=>v=.int .i64 j/\Hh (Bl w wx/\Mat wx (J w.1) G n g' cp' (uS iQ c r (j+1))/\Two wx gf f.num f.den))
     case first=>
      obtain⟨⟨k1,k2⟩,⟨k3,k4⟩,⟨k5,k6⟩,⟨k7,k8⟩,k9,w4⟩:=FX.o W7 (bJ _ _);clear j4 f9 j5 q2 q3 d0 HW;go_wp2_with fail;have KP:Hh (∀W,Bl W7 W->eQ W (az G r)=Q (sZ (g' r) 0 (n+1) (cp' r))/\eQ W (az G c)=Q (sZ (g' c) 0 (n+1) (cp' c))/\eQ W (az (g' c) (j*2))=Q (.int .i64 (iQ c j).num)/\eQ W (az (g' c) (j*2+1))=Q (.int .i64 (iQ c j).den)/\eQ W (az gf 0)=Q (.int .i64 f.num)/\eQ W (az gf 1)=Q (.int .i64 f.den)):=ay (λW hW=>by
       obtain⟨⟨m1,m2⟩,⟨m3,m4⟩,⟨m5,m6⟩,⟨m7,m8⟩,m9,m10⟩:=FX.o W hW;exact⟨m1,m2,m5,m6,m7,m8⟩)
      have KQ:Hh (∀W,Bl W7 W->eQ (sW (sW W (az (g' r) (j*2)) (.int .i64 z.num)) (az (g' r) (j*2+1)) (.int .i64 z.den)) (az G r)=Q (sZ (g' r) 0 (n+1) (cp' r))/\eQ (sW (sW W (az (g' r) (j*2)) (.int .i64 z.num)) (az (g' r) (j*2+1)) (.int .i64 z.den)) (az G c)=Q (sZ (g' c) 0 (n+1) (cp' c))/\eQ (sW (sW W (az (g' r) (j*2)) (.int .i64 z.num)) (az (g' r) (j*2+1)) (.int .i64 z.den)) (az (g' c) (j*2))=Q (.int .i64 (iQ c j).num)/\eQ (sW (sW W (az (g' r) (j*2)) (.int .i64 z.num)) (az (g' r) (j*2+1)) (.int .i64 z.den)) (az (g' c) (j*2+1))=Q (.int .i64 (iQ c j).den)/\eQ (sW (sW W (az (g' r) (j*2)) (.int .i64 z.num)) (az (g' r) (j*2+1)) (.int .i64 z.den)) (az gf 0)=Q (.int .i64 f.num)/\eQ (sW (sW W (az (g' r) (j*2)) (.int .i64 z.num)) (az (g' r) (j*2+1)) (.int .i64 z.den)) (az gf 1)=Q (.int .i64 f.den)):=ay (λW hW=>by
       obtain⟨h1,h2,h3⟩:=JG q7.o k0.o g5.o hW O c8.o j6 d2.o q6 q9.o;have a6:=(h2.M c M).num (j:=j) Oo;have a7:=(h2.M c M).den (j:=j) Oo;rw[qBZ]at a6 a7;exact⟨h2.head O,h2.head M,a6,a7,h3.1,h3.2.1⟩)
      refine wp_region_held_drew (S:=λw'=>eQ w' (az G r)=Q (sZ (g' r) 0 (n+1) (cp' r))/\eQ w' (az G c)=Q (sZ (g' c) 0 (n+1) (cp' c))/\eQ w' (az (g' c) (j*2))=Q (.int .i64 (iQ c j).num)/\eQ w' (az (g' c) (j*2+1))=Q (.int .i64 (iQ c j).den)/\eQ w' (az gf 0)=Q (.int .i64 f.num)/\eQ w' (az gf 1)=Q (.int .i64 f.den)) Kl (KP.o _ d3) (λa9=>?_);refine wTk 0 ?_;try simp only[Act.put,setIfInBounds_toArray]
      refine wTk 1 ?_;try simp only[Act.put]
      refine wTk 2 ?_;try simp only[Act.put]
      refine wTk 3 ?_;try simp only[Act.put]
      refine wTk 4 ?_;try simp only[Act.put]
      refine wTk 5 ?_;try simp only[Act.put]
      refine wTk 6 ?_;try simp only[Act.put]
      refine wTk 7 ?_;try simp only[Act.put]
      refine wTk 8 ?_;try simp only[Act.put]
      refine wTk 9 ?_;try simp only[Act.put]
      refine wTk 10 ?_;try simp only[Act.put]
      refine wTk 12 ?_;try simp only[Act.put]
      refine wTk 13 ?_;try simp only[Act.put]
      refine wTk 14 ?_;try simp only[Act.put]
      refine wTk 15 ?_;try simp only[Act.put]
      refine wTk 16 ?_;try simp only[Act.put]
      refine wTk 17 ?_;try simp only[Act.put]
      refine wTk 18 ?_;try simp only[Act.put]
      refine wTk 19 ?_;try simp only[Act.put]
      refine tB (rs:=[11,20]) Kl Ss ?_
      refine AllReadyH.cons rfl (λK hK=>?_) (AllReadyH.cons rfl (λK hK=>?_) AllReadyH.nil)
      focus
       go_simp
       refine hK.out _ _ (KP.o _ d3) (λa9=>?_)
       clear hK K
       try simp only[Act.put,setIfInBounds_toArray,set_cons_zero,set_cons_succ]
       refine tB (rs:=[20]) Kl Ss ?_
       refine AllReadyH.cons rfl (λK hK=>?_) AllReadyH.nil
       go_simp
       go_at_call 174
       apply (KT.o _).mono
       rintro e w8 ⟨rfl,l0⟩
       have d1:=bt d3 l0
       obtain⟨⟨m1,m2⟩,⟨m3,m4⟩,⟨m5,m6⟩,⟨m7,m8⟩,m9,m10⟩:=FX.o w8 d1
       go_wp2_with fail
       refine hK.out _ _ (KP.o _ d1) (λa9=>?_)
       clear hK K
       try simp only[Act.put,setIfInBounds_toArray,set_cons_zero,set_cons_succ]
      rotate_left;focus
       go_simp
       go_at_call 174
       apply (KT.o _).mono
       rintro e w8 ⟨rfl,l0⟩
       have d1:=bt d3 l0
       obtain⟨⟨m1,m2⟩,⟨m3,m4⟩,⟨m5,m6⟩,⟨m7,m8⟩,m9,m10⟩:=FX.o w8 d1
       go_wp2_with fail
       refine hK.out _ _ (KP.o _ d1) (λa9=>?_)
       clear hK K
       try simp only[Act.put,setIfInBounds_toArray,set_cons_zero,set_cons_succ]
       refine tB (rs:=[11]) Kl Ss ?_
       refine AllReadyH.cons rfl (λK hK=>?_) AllReadyH.nil
       go_simp
       refine hK.out _ _ (KP.o _ d1) (λa9=>?_)
       clear hK K
       try simp only[Act.put,setIfInBounds_toArray,set_cons_zero,set_cons_succ]
      all_goals
       refine tB (rs:=[21]) Kl Ss ?_
       refine AllReadyH.cons rfl (λK hK=>?_) AllReadyH.nil
       go_simp
       go_at_call 173
       apply (KN.o _).mono
       rintro e w9 ⟨rfl,l7⟩
       have g6:=bt d1 l7
       obtain⟨⟨n1,n2⟩,⟨n3,n4⟩,⟨n5,n6⟩,⟨n7,n8⟩,n9,n10⟩:=FX.o w9 g6
       go_wp2_with fail
       refine hK.out _ _ (KP.o _ g6) (λa9=>?_)
       clear hK K
       try simp only[Act.put,setIfInBounds_toArray,set_cons_zero,set_cons_succ]
       refine wTk 22 ?_
       try simp only[Act.put,setIfInBounds_toArray]
       refine tB (rs:=[23]) Kl Ss ?_
       refine AllReadyH.cons rfl (λK hK=>?_) AllReadyH.nil
       go_simp
       refine hK.out _ _ (KQ.o _ g6) (λa9=>?_)
       clear hK K
       try simp only[Act.put,setIfInBounds_toArray,set_cons_zero,set_cons_succ]
       refine wpAnyH_done Kl ?_ _
       go_wp2
       go_meet
       exact⟨rfl,ay (JG q7.o k0.o g5.o g6 O c8.o j6 d2.o q6 q9.o)⟩
     case rest=>
      obtain⟨rfl,hE⟩:=hcut;clear KT KN FX d3;go_wp2;go_roundw;exact⟨j+1,Oo,Oo,Gg,hE⟩;exact Im
    obtain rfl:j=n+1:=Oo;have t0:¬(((n+1:Nat):Int)<=(n:Int)):=Oo;have HX:=I;clear I;go_wp2;go_roundw;exact⟨r+1,Oo,Gg,ay ⟨HX.o.1,HX.o.2.1.V (λi _ j hj=>qGl hj)⟩⟩;exact Im
  obtain rfl:r=n:=Oo;have i7:¬((r:Int)<r):=Oo;have HX:=I;clear I;go_wp2;go_roundw;exact⟨c+1,Oo,Gg,ay ⟨HX.o.1,g',cp',_,_,_,_,_,HX.o.2.V (λi hi j _=>fE hi),q3.o⟩⟩;exact Im
 obtain rfl:p=n:=Oo;have i3:¬((p:Int)<p):=Oo;have HN:=ay (qD8 d0.o.1 HJ.o M HZ.o);go_wp2;go_ret2;exact⟨Or.inl ⟨rfl,HN.o⟩,HB.o⟩
