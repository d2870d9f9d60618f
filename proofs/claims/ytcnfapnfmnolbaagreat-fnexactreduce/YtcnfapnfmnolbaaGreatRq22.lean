import Derived.Test.YtcnfapnfmnolbaaGreatRq21
set_option maxHeartbeats 40000000
set_option maxRecDepth 1000000
namespace Go.Proofs.YtcnfapnfmnolbaaGreat
open Go.RowKit
variable {most:Bool}{c i j k m n p r:Nat}{B s:Nat->Nat}{R T:Nat->Nat->Rat}{b piv x y:Nat->Rat}
theorem uU(w:World)(x y:Int)(t:TypeId):Two (w.alloc (.cells #[ai x,ai y] t)) w.1.size x y:=
 ⟨by rw[bE _ _ _ _ rfl];rfl,by rw[bE _ _ _ _ rfl];rfl,World.frozen?_alloc_at _ _ _ _ rfl,World.frozen?_alloc_at _ _ _ _ rfl⟩
theorem UP(w:World)(vx u:Value)(n:Nat)(d:Dem)(x:Nat->Rat)(hx:IR w vx (prs n x))(hu:IntsAt w u d.pl)(hd:zj n d)(hp:Parts n x):
 Cl 167 #[vx,.agg #[u,.bool d.up,ai d.bd]] w λe w'=>e=.returned (.bool (kd n d x))/\Bl w w':=by
 obtain⟨a,cap,rfl,V⟩:=hx;obtain⟨a2,I,rfl,a3⟩:=hu;rw[qc]at V ⊢;obtain⟨m,hm⟩:=Ex d.pl.length;have d2:m<=7:=by rw[hm];exact hd.len
 rw[<-hm]at a3 ⊢;have c7:=ay V;have c8:=ay a3;have HD:=ay hd;have HP:=ay hp;have HM:=ay hm;have d3:-1<=d.bd/\d.bd<=1:=by rcases hd.bd with h|h <;> omega
 have HL:Hh (lsum d.pl x m=d.dm.at n x):=ay (by rw[hm];exact qFC x hd);clear V a3 hd hp hm;have a8:ArrAt (w.alloc (.cells #[.slice a2 m I,.bool d.up,ai d.bd] 183)) w.1.size 3 (f3 (.slice a2 m I) (.bool d.up) (ai d.bd)):=zG w 3 (f3 (.slice a2 m I) (.bool d.up) (ai d.bd)) 183;have a4:Bl w (w.alloc (.cells #[.slice a2 m I,.bool d.up,ai d.bd] 183)):=(bJ _ _).alloc (nR _) _;have a9:(w.alloc (.cells #[.slice a2 m I,.bool d.up,ai d.bd] 183)).1.size=w.1.size+1:=Ss;go_enter Tryz.func167,Tryz.ntmps167;go_upto_region 2 with fail;have a5:=a8.alloc Oo (.cells #[ai 0,ai 1] 36);have b0:=a4.alloc a4.size (.cells #[ai 0,ai 1] 36);have a6:=uU (w.alloc (.cells #[.slice a2 m I,.bool d.up,ai d.bd] 183)) 0 1 36;rw[a9]at a6;generalize (w.alloc (.cells #[.slice a2 m I,.bool d.up,ai d.bd] 183)).alloc (.cells #[ai 0,ai 1] 36)=W at *;obtain⟨p0,p1,p2⟩:=a5.three;have HX:=ay (And.intro a5 (And.intro b0 a6));clear a8 a4 a9 a5 b0 a6;go_wp2;go_loopw [13] (λt wr=>∃k:Nat,k<=m/\t=ai k/\Hh (ArrAt wr w.1.size 3 (f3 (.slice a2 m I) (.bool d.up) (ai d.bd))/\Bl w wr/\Two wr (w.1.size+1) (lsum d.pl x k).num (lsum d.pl x k).den)) (λt _=>m-(intOf t).toNat);exact⟨0,nZ _,rfl,HX⟩;clear HX p0 p1 p2;obtain⟨k,hk,rfl,O⟩:=hrel;by_cases b1:k<m
 ·have i1:(k:Int)<(m:Int):=Oo;obtain⟨b,o,rfl,hy⟩:=c8.o k b1;have c9:k<d.pl.length:=by rw[<-HM.o];exact b1
  have b7:d.pl.getD k 0∈d.pl:=by
   rw[gD,gE c9];exact gM _
  have U:=HD.o.lt _ b7;have d0:Hh (Sm 36000 (lsum d.pl x k)):=ay (HP.o.lsum HD.o Oo);have b8:Hh (lsum d.pl x (k+1)=lsum d.pl x k+x (d.pl.getD k 0)):=ay rfl;obtain⟨j,hj⟩:=Ex (d.pl.getD k 0);rw[<-hj]at hy U b8;have d1:Hh (Sm 5040 (x j)):=ay (HP.o.sm U);have cy:wr.cell? (az b (o+k))=some (ai (j:Nat)):=(O.o.2.1.cell (p:=(az b (o+k))) (bL w _ hy)).trans hy;rcases c7.o with h0|⟨b2,o2,rfl,M⟩;omega;obtain⟨e1,e2⟩:=M j U;rw[ya U]at e1 e2;have x1:wr.cell? (az b2 (o2+j*2))=some (ai (x j).num):=(O.o.2.1.cell (p:=(az b2 (o2+j*2))) (bL w _ e1)).trans e1;have x2:wr.cell? (az b2 (o2+j*2+1))=some (ai (x j).den):=(O.o.2.1.cell (p:=(az b2 (o2+j*2+1))) (bL w _ e2)).trans e2;obtain⟨t1,t2,t3,t4⟩:=O.o.2.2;have HX:=O;have j1:(j:Int)<(n:Int):=Oo;clear O hy e1 e2 M hj;generalize hq:lsum d.pl x k=q at *;have a7:w.1.size+1<wr.1.size:=bL wr _ t1;go_wp2_with fail;go_region_law (first|(go_simp;go_at_call 165;refine(qDV q (x j) _ d0.o d1.o Dd).mono ?_;rintro e w2 ⟨rfl,K⟩;have hb:=qa K;have hT:=HX.o.2.2.below a7 hb;obtain⟨s1,s2,s3,s4⟩:=hT))
  all_goals
   have HF:Hh (ArrAt ((w2.setCell (az (w.1.size+1) 0) (ai (q+x j).num)).setCell (az (w.1.size+1) 1) (ai (q+x j).den)) w.1.size 3 (f3 (.slice (some (az b o)) m I) (.bool d.up) (ai d.bd))/\Bl w ((w2.setCell (az (w.1.size+1) 0) (ai (q+x j).num)).setCell (az (w.1.size+1) 1) (ai (q+x j).den))/\Two ((w2.setCell (az (w.1.size+1) 0) (ai (q+x j).num)).setCell (az (w.1.size+1) 1) (ai (q+x j).den)) (w.1.size+1) (lsum d.pl x (k+1)).num (lsum d.pl x (k+1)).den):=ay ⟨((HX.o.1.below Oo hb).move (bD _ _ _ _ (by show w.1.size≠w.1.size+1;omega))).move (bD _ _ _ _ (by show w.1.size≠w.1.size+1;omega)),((bt HX.o.2.1 hb).setCell (by show w.1.size<=w.1.size+1;omega) _).setCell (by show w.1.size<=w.1.size+1;omega) _,by rw[b8.o];exact(HX.o.2.2.below a7 hb).set _ _⟩
   clear hb K s1 s2 s3 s4
   go_wp2
   go_roundw;exact⟨k+1,Oo,Gg,HF⟩;exact Im
 obtain rfl:k=m:=Oo;have i1:¬((k:Int)<(k:Int)):=Oo;obtain⟨p0,p1,p2⟩:=O.o.1.three;obtain⟨t1,t2,-,-⟩:=O.o.2.2;rw[HL.o]at t1 t2;have hS:Sm 36000 (d.dm.at n x):=by rw[<-HL.o];exact HP.o.lsum HD.o (by rw[<-HM.o];exact nR _)
 have HB:=ay O.o.2.1;have a7:w.1.size+1<wr.1.size:=bL wr _ t1;have b9:Sm 36000 (((d.bd:Int):Rat)):=⟨by show d.bd.natAbs<=36000;omega,by show 1<=36000;omega⟩;have d4:w.1.size<wr.1.size:=Oo;clear O;cases hup:d.up
 ·rw[hup]at p1;have HR:Hh (kd n d x=!decide (d.dm.at n x<((d.bd:Int):Rat))):=ay (by unfold kd;rw[hup];rfl);have KL:Hh (∀W,Cl 118 #[.agg #[ai (d.dm.at n x).num,ai (d.dm.at n x).den],.agg #[ai d.bd,ai 1]] W λe w'=>e=.returned (.bool (decide (d.dm.at n x<((d.bd:Int):Rat))))/\Bl W w'):=ay (λW=>jV _ _ W hS b9 Dd);generalize (d.dm.at n x).num=nu at *;generalize (d.dm.at n x).den=de at *;go_wp2_with (first|(go_at_call 118;refine(KL.o _).mono ?_;rintro e w2 ⟨rfl,K⟩));go_ret;exact⟨qK HR.o.symm,bt (HB.o.alloc HB.o.size _) K⟩
 rw[hup]at p1;have HR:Hh (kd n d x=!decide (((d.bd:Int):Rat)<d.dm.at n x)):=ay (by unfold kd;rw[hup];rfl);have KL:Hh (∀W,Cl 118 #[.agg #[ai d.bd,ai 1],.agg #[ai (d.dm.at n x).num,ai (d.dm.at n x).den]] W λe w'=>e=.returned (.bool (decide (((d.bd:Int):Rat)<d.dm.at n x)))/\Bl W w'):=ay (λW=>jV _ _ W b9 hS Dd);generalize (d.dm.at n x).num=nu at *;generalize (d.dm.at n x).den=de at *;go_wp2_with (first|(go_at_call 118;refine(KL.o _).mono ?_;rintro e w2 ⟨rfl,K⟩));go_ret;exact⟨qK HR.o.symm,bt (HB.o.alloc HB.o.size _) K⟩
def jE(x y:Nat->Rat):Nat->Nat->Bool
 |0,_=>false
 |f+1,k=>if x k<y k then true else if y k<x k then false else jE x y f (k+1)
def jF(n:Nat)(most:Bool)(x y:Nat->Rat):Bool:=if Cov.sm n x<Cov.sm n y then !most else if Cov.sm n y<Cov.sm n x then most else jE x y n 0
theorem Ul{x y:Nat->Rat}:∀(f k:Nat),jE x y f k=true↔Cov.Lex ((List.range' k f).map x) ((List.range' k f).map y)/\¬Cov.Lex ((List.range' k f).map y) ((List.range' k f).map x)
 |0,k=>by
  constructor;intro h;cases h
  rintro⟨_,h⟩;exact absurd trivial h
 |f+1,k=>by
  have U:=Ul (x:=x) (y:=y) f (k+1);rw[List.range'_succ,List.map_cons,List.map_cons];show(if x k<y k then true else if y k<x k then false else jE x y f (k+1))=true↔(x k<y k∨(x k=y k/\Cov.Lex _ _))/\¬(y k<x k∨(y k=x k/\Cov.Lex _ _));by_cases I:x k<y k;rw[if_pos I];refine⟨λ_=>⟨Or.inl I,?_⟩,λ_=>rfl⟩;rintro (h|⟨h,_⟩) <;> grind;rw[if_neg I];by_cases K:y k<x k;rw[if_pos K];refine⟨(λh=>by cases h),?_⟩;rintro⟨h|⟨h,_⟩,_⟩ <;> grind;rw[if_neg K,U];have e:x k=y k:=Rr;constructor
  ·rintro⟨M,O⟩;refine⟨Or.inr ⟨e,M⟩,?_⟩;rintro (h|⟨_,h⟩);exact K h;exact O h
  rintro⟨M,O⟩;refine⟨?_,λh=>O (Or.inr ⟨e.symm,h⟩)⟩;rcases M with h|⟨_,h⟩;exact absurd h I;exact h
def zH(most:Bool):Rat:=if most then -1 else 1
theorem Un:jF n most x y=true↔Cov.Lex (Cov.key (zH most) n x) (Cov.key (zH most) n y)/\¬Cov.Lex (Cov.key (zH most) n y) (Cov.key (zH most) n x):=by
 unfold Cov.key;have M:=Ul (x:=x) (y:=y) n 0;rw[<-List.range_eq_range']at M;show jF n most x y=true↔(zH most*Cov.sm n x<zH most*Cov.sm n y∨(zH most*Cov.sm n x=zH most*Cov.sm n y/\Cov.Lex _ _))/\¬(zH most*Cov.sm n y<zH most*Cov.sm n x∨(zH most*Cov.sm n y=zH most*Cov.sm n x/\Cov.Lex _ _));unfold jF;by_cases O:Cov.sm n x<Cov.sm n y
 ·rw[if_pos O];cases most
  have:zH false=1:=rfl;rw[this];refine⟨λ_=>⟨Or.inl Rr,?_⟩,λ_=>rfl⟩;rintro (h|⟨h,_⟩) <;> grind;have:zH true=-1:=rfl;rw[this];refine⟨(λh=>by cases h),?_⟩;rintro⟨h|⟨h,_⟩,_⟩ <;> grind
 rw[if_neg O];by_cases U:Cov.sm n y<Cov.sm n x
 ·rw[if_pos U];cases most
  have:zH false=1:=rfl;rw[this];refine⟨(λh=>by cases h),?_⟩;rintro⟨h|⟨h,_⟩,_⟩ <;> grind;have:zH true=-1:=rfl;rw[this];refine⟨λ_=>⟨Or.inl Rr,?_⟩,λ_=>rfl⟩;rintro (h|⟨h,_⟩) <;> grind
 rw[if_neg U,M];have e:Cov.sm n x=Cov.sm n y:=Rr;rw[e];constructor
 ·rintro⟨I,K⟩;refine⟨Or.inr ⟨rfl,I⟩,?_⟩;rintro (h|⟨_,h⟩);grind;exact K h
 rintro⟨I,K⟩;refine⟨?_,λh=>K (Or.inr ⟨rfl,h⟩)⟩;rcases I with h|⟨_,h⟩;grind;exact h
theorem QX(w:World)(v:Value)(u:Nat)(x:Nat->Rat)(M:u<=7)(h:IR w v (prs u x))(K:Parts u x):
 Cl 141 #[v] w λe w'=>e=.returned (.agg #[ai (Cov.sm u x).num,ai (Cov.sm u x).den])/\Bl w w':=by
 have:=qAm w v (prs u x) h (by rw[qc];omega) (λk=>((Cov.sm k x).num,((Cov.sm k x).den:Int))) rfl (λk W I=>by
  rw[qc]at I;rw[ya I];exact qDV (Cov.sm k x) (x k) W (K.sum Oo M) (K.sm I) Dd)
 rw[qc]at this;exact this
def zU(n:Nat)(L:List Dem):Nat->Nat->Rat:=λi j=>if j=n then (((L.getD i yw).bd:Int):Rat) else if j∈(L.getD i yw).pl then 1 else 0
theorem xr{α:Type}{l:List α}{d:α}(h:i<l.length):l.getD i d∈l:=by
 rw[gD,gE h];exact gM _
theorem qAj{L:List Dem}(h:∀D∈L,zj n D)(I:r<L.length):Cov.Whole 1 (zU n L r j):=by
 unfold zU;split;refine⟨_,rfl,?_⟩;rcases (h _ (xr (d:=yw) I)).bd with e|e <;> rw[e] <;> decide;split;exact⟨1,rfl,Dd⟩;exact⟨0,rfl,Dd⟩
theorem XX{L:List Dem}(r:Nat)(x:Nat->Rat):Cov.sm n (λj=>zU n L r j*x j)=(L.getD r yw).dm.at n x:=
 Cov.sm_congr (λj I=>by unfold zU;rw[if_neg Oo];rfl)
theorem qEi{L:List Dem}(r:Nat):zU n L r n=(L.getD r yw).dm.b:=if_pos rfl
section
variable {n c:Nat} {R0 R T:Nat->Nat->Rat} {B s:Nat->Nat} {piv:Nat->Rat}
theorem qEj(h:Cov.GJ n c R0 R T B s piv)(I:∀j,j<=n->∀r,r<n->Cov.Whole 1 (R0 r j))(O:n<=7):
 ∃D:Int,D≠0/\D.natAbs<=5040/\∀i,i<n->∀j,j<=n+n->Cov.Whole 5040 (T i j*D):=by
 obtain⟨D,U,hD,V⟩:=h.inv.small (λj K r M=>by
  unfold Cov.solveA;split;exact I j Oo r M;split
  ·split;exact⟨1,rfl,Dd⟩;exact⟨0,rfl,Dd⟩
  exact I n (nR _) r M)
 have hf:=Xg O;exact⟨D,U,Oo,λi hi j K=>(V i hi j K).mono hf⟩
theorem qEu(h:j<=n):Cov.cl n j<=n+n:=by
 unfold Cov.cl;split <;> omega
theorem qGv(h:Cov.GJ n c R0 R T B s piv)(I:∀j,j<=n->∀r,r<n->Cov.Whole 1 (R0 r j))(K:n<=7)(hi:i<n)(M:j<=n+n):Sm 5040 (T i j):=by
 obtain⟨D,O,U,V⟩:=qEj h I K;exact zV O U (V i hi j M) (nR _)
theorem qDQ(h:Cov.GJ n c R0 R T B s piv)(I:n<=7)(hi:i<c):Sm 5040 (piv i):=by
 obtain⟨D,K,U,M⟩:=h.pivsm i hi;have O:=Xg I;exact zV K Oo M O
theorem qDR(h:Cov.GJ n c R0 R T B s piv)(M:∀j,j<=n->∀r,r<n->Cov.Whole 1 (R0 r j))(O:n<=7)(U:c<=p)(I:p<n)(K:j<=n):Sm 5040 (R p j):=by
 rw[h.rowt p U I j K];exact qGv h M O (h.lt p I) (qEu K)
theorem qDS(h:Cov.GJ n c R0 R T B s piv)(O:∀j,j<=n->∀r,r<n->Cov.Whole 1 (R0 r j))(K:n<=7)(hi:i<n)(M:j<=n):Sm 25401600 (R i j):=by
 by_cases I:i<c;rw[h.rowd i I j M];exact((qDQ h K I).mul (qGv h O K (h.lt i hi) (qEu M))).mono Dd;exact(qDR h O K Oo hi M).mono Dd
theorem qG6(h:Cov.GJ n c R0 R T B s piv)(hw:∀j,j<=n->∀r,r<n->Cov.Whole 1 (R0 r j))(hn:n<=7)(M:c<=p)(hp:p<n)(O:R p c≠0)(U:k<n):Sm 25401600 (R k c / R p c):=by
 obtain⟨D,h0,hD,hW⟩:=qEj h hw hn;have I:Cov.cl n c=c:=if_neg Oo;have e1:R p c=T (s p) c:=by rw[h.rowt p M hp c Oo,I]
 have hq:∀a,a<n->Sm 5040 (T a c / T (s p) c):=by
  intro a ha;obtain⟨z1,e2,b1⟩:=hW a ha c Oo;obtain⟨z2,V,b2⟩:=hW (s p) (h.lt p hp) c Oo;have hT:T (s p) c≠0:=by rw[<-e1];exact O
  have a3:((D:Int):Rat)≠0:=by
   intro e;exact h0 (by exact_mod_cast e)
  have hz:z2≠0:=by
   intro e;rw[e]at V;have:T (s p) c*((D:Int):Rat)=0:=V;rcases Rat.mul_eq_zero.1 this with e4|e4;exact hT e4;exact a3 e4
  refine zV (D:=z2) hz b2 (Z:=5040) ⟨z1,?_,b1⟩ (nR _);rw[<-e2,<-V];grind
 rw[e1];by_cases K:k<c;rw[h.rowd k K c Oo,I,show piv k*T (s k) c / T (s p) c=piv k*(T (s k) c / T (s p) c)by grind];exact((qDQ h hn K).mul (hq _ (h.lt k U))).mono Dd;rw[h.rowt k Oo U c Oo,I];exact(hq _ (h.lt k U)).mono Dd
theorem qEk(h:Cov.GJ n c R0 R T B s piv)(I:∀j,j<=n->∀r,r<n->Cov.Whole 1 (R0 r j))(K:n<=7):Parts n (λi=>T (s i) (n+n)):=by
 obtain⟨D,M,O,U⟩:=qEj h I K;exact⟨D,M,O,λj V=>U _ (h.lt j V) _ (nR _)⟩
end
def VO(n:Nat)(L:List Dem)(x:Nat->Rat):Prop:=∀y,(∀D∈L,D.dm.at n y=D.dm.b)->∀i,i<n->y i=x i
theorem ZB{α:Type}{L:List α}{D d:α}(h:D∈L):∃r,r<L.length/\L.getD r d=D:=by
 obtain⟨r,I,e⟩:=List.mem_iff_getElem.1 h;exact⟨r,I,by rw[gD,gE I,<-e];rfl⟩
theorem qF0{L:List Dem}(K:L.length=n)(h:Cov.GJ n n (zU n L) R T B s piv):VO n L (λi=>T (s i) (n+n)):=by
 intro y I i hi;refine(Cov.gj_end h).2 y (λr M=>?_) i hi;rw[XX,qEi];exact I _ (xr Oo)
theorem qCM{L:List Dem}(hL:L.length=n)(h:Cov.GJ n c (zU n L) R T B s piv)(I:c<n)(K:∀p,c<=p->p<n->R p c=0):¬Cov.Kern n (L.map Dem.dm):=by
 intro M;obtain⟨d,O,U⟩:=Cov.gj_stuck h I K;have:=M d (λD V=>by
  obtain⟨E,hE,rfl⟩:=List.mem_map.1 V;obtain⟨r,hr,e⟩:=ZB (d:=yw) hE;have:=U r Oo;rw[XX,e]at this;exact this) c I
 rw[O]at this;exact absurd this Dd
theorem qF1{L:List Dem}(hL:L.length=n)(h:Cov.GJ n n (zU n L) R T B s piv):Cov.Kern n (L.map Dem.dm):=by
 intro d hd i hi;have K:∀i,i<n->∀j,j<n->T (s i) j=if i=j then 1 else 0:=by
  intro i hi j I;have:=h.inv.unit (s i) (h.lt i hi) (s j) (h.lt j I);rw[h.done j I]at this;rw[this];by_cases e:i=j;rw[if_pos e,if_pos (by rw[e])];rw[if_neg e,if_neg (λM=>e (h.inj i hi j I M))]
 have hh:Cov.Hom n (n+n) (Cov.solveA n (zU n L)) (λj=>if j<n then d j else 0):=by
  intro r hr;rw[Cov.sm_app];have O:Cov.sm n (λj=>(if j<n then d j else 0)*Cov.solveA n (zU n L) j r)=Cov.sm n (λj=>zU n L r j*d j):=Cov.sm_congr (λj I=>by
   unfold Cov.solveA;rw[if_pos I,if_pos I];grind)
  have M:Cov.sm n (λi=>(if n+i<n then d (n+i) else 0)*Cov.solveA n (zU n L) (n+i) r)=0:=Cov.sm_zero (λi _=>by rw[if_neg Oo];grind);rw[O,M,XX,hd _ (List.mem_map.2 ⟨_,xr Oo,rfl⟩)];grind
 have V:=h.inv.hom_rows hh (s i) (h.lt i hi);rw[Cov.sm_app]at V;have O:Cov.sm n (λj=>T (s i) j*(if j<n then d j else 0))=d i:=by
  rw[Cov.sm_single (k:=i) hi];rw[K i hi i hi,if_pos rfl,if_pos hi];grind;intro j I U;rw[K i hi j I,if_neg (λe=>U e.symm)];grind
 have M:Cov.sm n (λk=>T (s i) (n+k)*(if n+k<n then d (n+k) else 0))=0:=Cov.sm_zero (λk _=>by rw[if_neg Oo];grind);rw[O,M]at V;grind
structure ZC(n:Nat)(most:Bool)(all:List Dem)(x:Nat->Rat):Prop where
 meets:∀D∈all,D.dm.meets n x
 least:∀y,(∀D∈all,D.dm.meets n y)->Cov.Lex (Cov.key (zH most) n x) (Cov.key (zH most) n y)
def Compl(n:Nat)(all:List Dem)(x:Nat->Rat)(k:Nat)(ch:List Dem):Prop:=
 ∃S,S.Sublist (all.drop k)/\ch.length+S.length=n/\(∀D∈ch++S,D.dm.at n x=D.dm.b)/\Cov.Kern n ((ch++S).map Dem.dm)
def InP(n:Nat)(all:List Dem)(b:Nat->Rat):Prop:=∀D∈all,D.dm.meets n b
def ZD(n:Nat)(x:Nat->Rat):Option (Nat->Rat)->Prop
 |none=>False
 |some b=>∀i,i<n->b i=x i
theorem qAk{all:List Dem}(h:ZC n most all x):Compl n all x 0 []:=by
 obtain⟨S,K,M,O,U⟩:=Cov.corner_exists (v:=zH most) (all.map Dem.dm) x (λD I=>by
  obtain⟨E,V,rfl⟩:=List.mem_map.1 I;exact h.meets E V) (λy hy=>h.least y (λD I=>hy _ (List.mem_map.2 ⟨D,I,rfl⟩)))
 obtain⟨S',hs,rfl⟩:=List.sublist_map_iff.1 K;refine⟨S',by rw[List.drop_zero];exact hs,by simpa using M,λD I=>?_,by simpa using U⟩;exact O _ (List.mem_map.2 ⟨D,by simpa using I,rfl⟩)
theorem qCN{all:List Dem}{I:List Dem}(M:k<all.length)(h:Compl n all x k I):
 Compl n all x (k+1) (I++[all.getD k yw])∨Compl n all x (k+1) I:=by
 obtain⟨S,O,U,V,h4⟩:=h;rw[List.drop_eq_getElem_cons M]at O;have e:all.getD k yw=all[k]:=by rw[gD,gE M];rfl
 rw[e];rcases List.sublist_cons_iff.1 O with K|⟨S',rfl,K⟩;exact Or.inr ⟨S,K,U,V,h4⟩;refine Or.inl ⟨S',K,by simp at U ⊢;omega,λD hD=>V D (by simpa using hD),by simpa using h4⟩
theorem qCO{all:List Dem}{I:List Dem}(h:Compl n all x k I)(O:all.length<k+n-I.length)(K:k<=all.length):False:=by
 obtain⟨S,M,U,-,-⟩:=h;have:=M.length_le;rw[List.length_drop]at this;omega
theorem YW{all:List Dem}{I:List Dem}(h:Compl n all x k I)(O:I.length=n):(∀D∈I,D.dm.at n x=D.dm.b)/\Cov.Kern n (I.map Dem.dm):=by
 obtain⟨S,U,V,K,M⟩:=h;have:S=[]:=List.length_eq_zero_iff.1 Oo;subst this;rw[List.append_nil]at K M;exact⟨K,M⟩
theorem K7{v:Rat}(h:∀i,i<n->b i=x i):Cov.key v n b=Cov.key v n x:=Cov.key_congr h
theorem qDT{all:List Dem}(hs:ZC n most all x)(M:InP n all y)(I:jF n most y b=true)(hb:ZD n x (some b)):ZD n x (some y):=by
 have K:=(Un.1 I);have e:=K7 (v:=zH most) hb;rw[e]at K;exact absurd (hs.least y M) K.2
theorem qDU{all:List Dem}(hs:ZC n most all x)(hb:InP n all b)(I:jF n most y b=false)(O:∀i,i<n->y i=x i):ZD n x (some b):=by
 have e:=K7 (v:=zH most) O;have K:¬(Cov.Lex (Cov.key (zH most) n y) (Cov.key (zH most) n b)/\¬Cov.Lex (Cov.key (zH most) n b) (Cov.key (zH most) n y)):=λh=>by
  rw[Un.2 h]at I;cases I
 rw[e]at K;have M:=hs.least b hb;have U:Cov.Lex (Cov.key (zH most) n b) (Cov.key (zH most) n x):=Classical.byContradiction λh=>K ⟨M,h⟩;exact Cov.key_inj (Cov.Lex.antisymm U M)
def RwIs(w:World)(g:Nat)(t:TypeId)(n:Nat)(f:Nat->Value):Prop:=
 ∃cur:Array Value,w.1[g]?=some (.cells cur t (0,0))/\∀i,i<n->cur[i]?=some (f i)
section
variable {w w':World} {g h n:Nat} {t t':TypeId} {f f':Nat->Value}
theorem RwIs.cell(H:RwIs w g t n f)(hi:i<n):w.cell? (az g i)=some (f i):=by
 obtain⟨c,hb,I⟩:=H;simp[World.cell?,hb,I i hi]
theorem RwIs.free(H:RwIs w g t n f)(i:Nat):w.frozen? (az g i)=false:=by
 obtain⟨c,hb,_⟩:=H;simp[World.frozen?,hb]
theorem RwIs.lt(H:RwIs w g t n f):g<w.1.size:=by
 obtain⟨c,hb,_⟩:=H;obtain⟨I,_⟩:=Array.getElem?_eq_some_iff.1 hb;exact I
theorem RwIs.congr(H:RwIs w g t n f)(e:∀i,i<n->f i=f' i):RwIs w g t n f':=by
 obtain⟨c,hb,I⟩:=H;exact⟨c,hb,λi hi=>by rw[I i hi,e i hi]⟩
theorem RwIs.of_block(H:RwIs w g t n f)(e:w'.1[g]?=w.1[g]?):RwIs w' g t n f:=by
 obtain⟨c,hb,I⟩:=H;exact⟨c,e.trans hb,I⟩
theorem RwIs.below(H:RwIs w g t n f)(hb:Bl w w'):RwIs w' g t n f:=H.of_block (hb.block g H.lt)
theorem RwIs.set(H:RwIs w g t n f)(i:Nat)(v:Value):RwIs (w.setCell (az g i) v) g t n (λj=>if j=i then v else f j):=by
 obtain⟨c,hb,K⟩:=H;refine⟨c.setIfInBounds i v,?_,λj M=>?_⟩;simp[World.setCell,Array.getElem?_modify,hb];have I:j<c.size:=by
  have:=K j M;exact(Array.getElem?_eq_some_iff.1 this).1
 rw[Array.getElem?_setIfInBounds];by_cases e:j=i;subst e;simp[I];rw[if_neg (λh=>e h.symm)];show c[j]?=some (if j=i then v else f j);rw[if_neg e];exact K j M
theorem RwIs.other(H:RwIs w g t n f)(I:g≠h)(i:Nat)(v:Value):RwIs (w.setCell (az h i) v) g t n f:=H.of_block (bD _ _ _ _ I)
theorem RwIs.ne(H:RwIs w g t n f)(K:RwIs w h t' m f')(M:t≠t'):g≠h:=by
 rintro rfl;obtain⟨c,hb,_⟩:=H;obtain⟨c',I,_⟩:=K;rw[hb]at I;simp only[Option.some.injEq,Obj.cells.injEq]at I;exact M I.2.1
end
def Yy(r:Nat->Rat):Nat->Value:=λk=>if k % 2=0 then ai (r (k / 2)).num else ai (r (k / 2)).den
def RowAt(w:World)(g n:Nat)(r:Nat->Rat):Prop:=RwIs w g 36 ((n+1)*2) (Yy r)
section
variable {w w':World} {g h n:Nat} {r:Nat->Rat}
theorem RowAt.num(H:RowAt w g n r)(I:j<=n):w.cell? (az g (j*2))=some (ai (r j).num):=by
 rw[RwIs.cell H Oo];unfold Yy;rw[if_pos Oo,show j*2 / 2=j by omega]
theorem RowAt.den(H:RowAt w g n r)(I:j<=n):w.cell? (az g (j*2+1))=some (ai (r j).den):=by
 rw[RwIs.cell H Oo];unfold Yy;rw[if_neg Oo,show(j*2+1) / 2=j by omega]
theorem RowAt.set(H:RowAt w g n r)(j:Nat)(q:Rat):RowAt ((w.setCell (az g (j*2)) (ai q.num)).setCell (az g (j*2+1)) (ai q.den)) g n (λi=>if i=j then q else r i):=by
 refine RwIs.congr (RwIs.set (RwIs.set H (j*2) _) (j*2+1) _) (λk M=>?_);unfold Yy;show _=if k % 2=0 then Value.int IntKind.i64 (if k / 2=j then q else r (k / 2)).num else Value.int IntKind.i64 (if k / 2=j then q else r (k / 2)).den
 by_cases I:k=j*2+1;rw[if_pos I,if_neg Oo,if_pos Oo];rw[if_neg I];by_cases K:k=j*2;rw[if_pos K,if_pos Oo,if_pos Oo];rw[if_neg K,if_neg (show ¬k / 2=j by omega)]
theorem RowAt.other(H:RowAt w g n r)(I:g≠h)(i k:Nat)(v u:Value):RowAt ((w.setCell (az h i) v).setCell (az h k) u) g n r:=RwIs.other (RwIs.other H I i v) I k u
theorem RowAt.congr{I:Nat->Rat}(H:RowAt w g n r)(e:∀j,j<=n->r j=I j):RowAt w g n I:=by
 refine RwIs.congr H (λk K=>?_);unfold Yy;rw[e (k / 2) Oo]
theorem qGg(k:Nat):∀j,j<k->(zs k)[j*2]?=some (ai 0)/\(zs k)[j*2+1]?=some (ai 1):=by
 induction k with
 |zero=>intro j I;omega
 |succ k ih=>
  intro j I;have hl:(zs k).length=k*2:=by simp[zs]
  rw[qBV];by_cases e:j<k;rw[aL Oo,aL Oo];exact ih j e;obtain rfl:j=k:=Oo;rw[bQ Oo,bQ Oo,hl];simp
theorem qEF{B:Nat}{v:Value}(H:w.ownsRow B 36 2 v (n+1) (zs (n+1))):∃g cap,v=.slice (some (az g 0)) (n+1) cap/\B<=g/\g<w.1.size/\RowAt w g n (λ_=>0):=by
 rcases H.2 with ⟨_,h⟩|⟨g,cap,cur,rfl,hb,U,hn,-,-,V⟩;omega;have I:RowAt w g n (λ_=>0):=by
  refine⟨cur,U,λi hi=>?_⟩;have e:cur[i]?=(zs (n+1))[i]?:=by
   rw[<-V,List.getElem?_take_of_lt hi,Array.getElem?_toList]
  rw[e];unfold Yy;obtain⟨K,M⟩:=qGg (n+1) (i / 2) Oo;by_cases O:i % 2=0;rw[if_pos O];rw[show i / 2*2=i by omega]at K;exact K;rw[if_neg O];rw[show i / 2*2+1=i by omega]at M;exact M
 exact⟨g,cap,rfl,hb,I.lt,I⟩
end
structure Mat(w:World)(B G n:Nat)(g cp:Nat->Nat)(R:Nat->Nat->Rat):Prop where
 top:RwIs w G 35 n (λi=>.slice (some (az (g i) 0)) (n+1) (cp i))
 row:∀i,i<n->RowAt w (g i) n (R i)
 inj:∀i,i<n->∀k,k<n->g i=g k->i=k
 base:B<=G/\∀i,i<n->B<=g i
section
variable {w w':World} {B G n:Nat} {g cp:Nat->Nat} {R R':Nat->Nat->Rat}
theorem Mat.ne(H:Mat w B G n g cp R)(hi:i<n):g i≠G:=RwIs.ne (H.row i hi) H.top Dd
theorem Mat.below(H:Mat w B G n g cp R)(hb:Bl w w'):Mat w' B G n g cp R:=⟨H.top.below hb,λi hi=>RwIs.below (H.row i hi) hb,H.inj,H.base⟩
theorem Mat.congr(H:Mat w B G n g cp R)(e:∀i,i<n->∀j,j<=n->R i j=R' i j):Mat w B G n g cp R':=⟨H.top,λi hi=>(H.row i hi).congr (e i hi),H.inj,H.base⟩
theorem Mat.head(H:Mat w B G n g cp R)(hi:i<n):w.cell? (az G i)=some (.slice (some (az (g i) 0)) (n+1) (cp i)):=H.top.cell hi
theorem Mat.swap(H:Mat w B G n g cp R)(O:c<n)(U:p<n):
 Mat ((w.setCell (az G p) (.slice (some (az (g c) 0)) (n+1) (cp c))).setCell (az G c) (.slice (some (az (g p) 0)) (n+1) (cp p))) B G n (Cov.swp g c p) (Cov.swp cp c p) (Cov.swpR R c p):=by
 refine⟨RwIs.congr ((H.top.set p _).set c _) (λi _=>?_),λi hi=>?_,λi hi k K e=>?_,H.base.1,λi hi=>?_⟩
 ·unfold Cov.swp;by_cases V:i=c;rw[if_pos V,if_pos V,if_pos V];rw[if_neg V,if_neg V,if_neg V];by_cases e2:i=p;rw[if_pos e2,if_pos e2,if_pos e2];rw[if_neg e2,if_neg e2,if_neg e2]
 ·have K:∀k,k<n->RowAt ((w.setCell (az G p) (.slice (some (az (g c) 0)) (n+1) (cp c))).setCell (az G c) (.slice (some (az (g p) 0)) (n+1) (cp p))) (g k) n (R k):=λk K=>(H.row k K).other (H.ne K) _ _ _ _;unfold Cov.swp Cov.swpR;split;exact K p U;split;exact K c O;exact K i hi
 ·have I:=H.inj;unfold Cov.swp at e;by_cases a1:i=c
  ·by_cases M:k=c;omega;rw[if_pos a1,if_neg M]at e;by_cases b2:k=p;rw[if_pos b2]at e;have:=I p U c O e;omega;rw[if_neg b2]at e;have:=I p U k K e;omega
  rw[if_neg a1]at e;by_cases a2:i=p
  ·rw[if_pos a2]at e;by_cases M:k=c;rw[if_pos M]at e;have:=I c O p U e;omega;rw[if_neg M]at e;by_cases b2:k=p;omega;rw[if_neg b2]at e;have:=I c O k K e;omega
  rw[if_neg a2]at e;by_cases M:k=c;rw[if_pos M]at e;have:=I i hi p U e;omega;rw[if_neg M]at e;by_cases b2:k=p;rw[if_pos b2]at e;have:=I i hi c O e;omega;rw[if_neg b2]at e;exact I i hi k K e
 unfold Cov.swp;split;exact H.base.2 p U;split;exact H.base.2 c O;exact H.base.2 i hi
theorem Mat.set(H:Mat w B G n g cp R)(I:r<n)(j:Nat)(q:Rat):
 Mat ((w.setCell (az (g r) (j*2)) (ai q.num)).setCell (az (g r) (j*2+1)) (ai q.den)) B G n g cp (λi k=>if i=r/\k=j then q else R i k):=by
 refine⟨(H.top.other (λe=>H.ne I e.symm) _ _).other (λe=>H.ne I e.symm) _ _,λi hi=>?_,H.inj,H.base⟩;by_cases e:i=r
 ·subst e;exact((H.row i hi).set j q).congr (λk _=>by
   by_cases e:k=j;rw[if_pos e,if_pos ⟨rfl,e⟩];rw[if_neg e,if_neg (λh=>e h.2)])
 exact((H.row i hi).other (λh=>e (H.inj i hi r I h)) _ _ _ _).congr (λk _=>by rw[if_neg (λh=>e h.1)])
end
structure Rws(w:World)(B n k:Nat)(vr:Value)(vs:List Value)(g cp:Nat->Nat)(R:Nat->Nat->Rat):Prop where
 own:w.ownsRow B 35 1 vr k vs
 len:vs.length=k
 val:∀i,i<k->vs.getD i undef=.slice (some (az (g i) 0)) (n+1) (cp i)
 row:∀i,i<k->RowAt w (g i) n (R i)
 inj:∀i,i<k->∀j,j<k->g i=g j->i=j
 base:∀i,i<k->B<=g i
section
variable {w w':World} {B n k:Nat} {vr:Value} {vs:List Value} {g cp:Nat->Nat} {R:Nat->Nat->Rat}
theorem Rws.below(H:Rws w B n k vr vs g cp R)(hb:Bl w w'):Rws w' B n k vr vs g cp R:=⟨qB H.own hb,H.len,H.val,λi hi=>RwIs.below (H.row i hi) hb,H.inj,H.base⟩
theorem RwIs.typ{w:World}{g:Nat}{t:TypeId}{f:Nat->Value}(H:RwIs w g t n f):∃cur,w.1[g]?=some (.cells cur t (0,0)):=by
 obtain⟨c,hb,_⟩:=H;exact⟨c,hb⟩
theorem Rws.other(H:Rws w B n k vr vs g cp R){f:Nat->Value}(K:RwIs w c 36 m f)(I:∀i,i<k->g i≠c)(a:Nat)(v:Value):Rws (w.setCell (az c a) v) B n k vr vs g cp R:=
 ⟨qC H.own (λq hq=>bD _ _ _ _ (λe=>own_ne H.own K.typ Dd (by rw[hq];exact congrArg some e.symm))),H.len,H.val,λi hi=>RwIs.other (H.row i hi) (I i hi) _ _,H.inj,H.base⟩
theorem Rws.step{w3:World}{o:Obj}{M:Value}{cap:Nat}{r:Nat->Rat}(H:Rws w B n k vr vs g cp R)(hr:RowAt w c n r)(V:B<=c)(I:∀i,i<k->g i≠c)(hR:∀j,j<=n->r j=R k j)
 (O:w3.ownsRow B 35 1 M (k+1) (vs++[.slice (some (az c 0)) (n+1) cap])) (hg:(w.alloc o).grownBy w3 vr.ownBlock):
 Rws w3 B n (k+1) M (vs++[.slice (some (az c 0)) (n+1) cap]) (λi=>if i=k then c else g i) (λi=>if i=k then cap else cp i) R:=by
 have a3:(w.alloc o).1.size=w.1.size+1:=Ss;have hk:∀b,b<w.1.size->some b≠vr.ownBlock->w3.1[b]?=w.1[b]?:=λb hb I=>(hg.block b Oo I).trans (Below.heap_alloc _ _ _ hb);have K:∀{q:Nat} {f:Nat->Rat},RowAt w q n f->RowAt w3 q n f:=λh=>RwIs.of_block h (hk _ h.lt (own_ne H.own h.typ Dd));refine⟨O,by rw[lA,H.len];rfl,λi hi=>?_,λi hi=>?_,λi hi j hj e=>?_,λi hi=>?_⟩
 ·by_cases e:i=k;subst e;rw[if_pos rfl,if_pos rfl,gD,bQ (by rw[H.len];exact nR _),H.len];simp;rw[if_neg e,if_neg e,gD,aL (by rw[H.len];omega),<-gD];exact H.val i Oo
 ·by_cases e:i=k;subst e;rw[if_pos rfl];exact(K hr).congr hR;rw[if_neg e];exact K (H.row i Oo)
 ·by_cases e1:i=k
  ·by_cases U:j=k;omega;rw[if_pos e1,if_neg U]at e;exact absurd e.symm (I j Oo)
  by_cases U:j=k;rw[if_neg e1,if_pos U]at e;exact absurd e (I i Oo);rw[if_neg e1,if_neg U]at e;exact H.inj i Oo j Oo e
 by_cases e:i=k;rw[if_pos e];exact V;rw[if_neg e];exact H.base i Oo
theorem Rws.mat(H:Rws w B n n vr vs g cp R)(M:0<n):∃G cap,vr=.slice (some (az G 0)) n cap/\Mat w B G n g cp R:=by
 rcases H.own.2 with ⟨_,h⟩|⟨G,cap,cur,rfl,hb,I,-,-,-,K⟩;omega;refine⟨G,cap,rfl,⟨cur,I,λi hi=>?_⟩,H.row,H.inj,hb,H.base⟩;have e:cur[i]?=vs[i]?:=by
  rw[<-K,List.getElem?_take_of_lt Oo,Array.getElem?_toList]
 rw[e];have:=H.val i hi;rw[gD,gE (by rw[H.len];exact hi)]at this;rw[gE (by rw[H.len];exact hi)];simpa using this
end
end Go.Proofs.YtcnfapnfmnolbaaGreat
