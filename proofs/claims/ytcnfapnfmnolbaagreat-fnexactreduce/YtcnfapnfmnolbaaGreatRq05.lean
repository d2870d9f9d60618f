import Derived.Test.YtcnfapnfmnolbaaGreatRq04
set_option maxHeartbeats 40000000
set_option maxRecDepth 1000000
namespace Go.Proofs.YtcnfapnfmnolbaaGreat
open Go.RowKit
variable {q:Int}{l:LI}{rows:LL}{xs:List Value}{B g n o s:Nat}{e:TypeId}{u v:Value}{W W' a b c w w':World}
def rowAt(rows:LL)(q:Int)(j:Nat):Bool:=decide (((rows.getD j []).length:Int)=q)&&(decide (j=0)||decide (qE (rows.getD (j-1) []) (rows.getD j [])<0))
def xt(rows:LL)(q:Int):Bool:=(List.range rows.length).all (rowAt rows q)
theorem ur(h:∀i,i<rows.length->rowAt rows q i=true):xt rows q=true:=by
 unfold xt;rw[aT];intro i hi;exact h i (by simpa using hi)
theorem Zi{j:Nat}(I:j<rows.length)(h:rowAt rows q j=false):xt rows q=false:=by
 unfold xt;rw[List.all_eq_false];exact⟨j,by simpa using I,by rw[h];decide⟩
theorem Zj(rows:LL)(q:Int)(j:Nat):
 (((rows.getD j []).length:Int)≠q/\rowAt rows q j=false)∨(((rows.getD j []).length:Int)=q/\j=0/\rowAt rows q j=true)∨
 (((rows.getD j []).length:Int)=q/\0<j/\0<=qE (rows.getD (j-1) []) (rows.getD j [])/\rowAt rows q j=false)∨(((rows.getD j []).length:Int)=q/\0<j/\qE (rows.getD (j-1) []) (rows.getD j [])<0/\rowAt rows q j=true):=by
 unfold rowAt;generalize ((rows.getD j []).length:Int)=x;generalize qE (rows.getD (j-1) []) (rows.getD j [])=y;by_cases I:x=q
 ·right;by_cases K:j=0;left;refine⟨I,K,?_⟩;simp[K,I];right;by_cases M:y<0;right;refine⟨I,Oo,M,?_⟩;simp[I];omega;left;refine⟨I,Oo,Oo,?_⟩;simp[I];omega
 left;exact⟨I,by simp[I]⟩
theorem QT(w:World)(vr:Value)(rows:LL)(q:Int)(h:ISS w vr rows)(hl:qT rows):
 Cl 111 #[vr,ai q] w λe w'=>e=.returned (.bool (xt rows q))/\w'=w:=by
 obtain⟨a,cap,rfl,hc⟩:=h;obtain⟨a7,a3⟩:=hl;obtain⟨n,hn⟩:=Ex rows.length;obtain⟨res,K⟩:=Ex (xt rows q);rw[<-K];rw[<-hn]at hc a7 ⊢;have HR:=ay K;have HC:=ay hc;have HN:=ay hn;have HL:=ay a3;clear hc hn K a3;go_enter Tryz.func111,Tryz.ntmps111;go_wp2;go_loop [9] (λt=>∃j:Nat,j<=n/\t=ai j/\Hh (∀i,i<j->rowAt rows q i=true)) (λt=>n-(intOf t).toNat);exact⟨0,nZ _,rfl,ay (λi hi=>Oo)⟩;obtain⟨j,hj,rfl,O⟩:=hrel;by_cases a4:j<n
 ·have i1:(j:Int)<(n:Int):=Oo;rcases HC.o with h0|⟨b,o,rfl,I⟩;omega;obtain⟨u,c1,hu⟩:=I j a4;have a8:=Zj rows q j;have fin:rowAt rows q j=false->Hh (res=false):=λe=>HR.o.trans (Zi (by rw[<-HN.o];exact a4) e);have nxt:rowAt rows q j=true->Hh (∀i,i<j+1->rowAt rows q i=true):=λe i hi=>by
   by_cases e2:i=j;rw[e2];exact e;exact O.o i Oo
  have hp:0<j->∃u',w.cell? (az b (o+(j-1)))=some u'/\IS w u' (rows.getD (j-1) []):=λe=>I (j-1) Oo;have HU:=ay hu;have hm:=HL.o j;obtain⟨a1,a5,rfl,-⟩:=hu;clear I O;rcases a8 with ⟨h1,V⟩|⟨h1,V,h3⟩|⟨h1,V,h3,h4⟩|⟨h1,V,h3,h4⟩
  ·have U:=fin V;clear hp fin nxt V;generalize (rows.getD j []).length=m at *;go_wp2;go_ret;exact⟨qK (by rw[U.o]),rfl⟩
  ·have U:=nxt h3;subst V;have b0:w.cell? (az b o)=some (.slice a1 (rows.getD 0 []).length a5):=by simpa using c1
   clear hp fin nxt h3 HU;generalize (rows.getD 0 []).length=m at *;subst h1;go_wp2;go_round;exact⟨0+1,Oo,Gg,U⟩;exact Im
  ·have U:=fin h4;obtain⟨u',c2,M⟩:=hp V;have HK:=ay (vf w u' _ (rows.getD (j-1) []) (rows.getD j []) M HU.o (HL.o (j-1)) hm);obtain⟨a2,a6,rfl,-⟩:=M;have i3:(0:Int)<(j:Int):=Oo;have i4:((j:Int)-1).toNat=j-1:=Oo;clear hp fin nxt h4 HU;generalize qE (rows.getD (j-1) []) (rows.getD j [])=y at *;generalize (rows.getD j []).length=m at *;generalize (rows.getD (j-1) []).length=m' at *;subst h1;go_wp2_with (first|(go_at_call 132;refine HK.o.mono ?_;rintro e w' ⟨rfl,a9⟩;subst w'));go_ret;exact⟨qK (by rw[U.o]),rfl⟩
  have U:=nxt h4;obtain⟨u',c2,M⟩:=hp V;have HK:=ay (vf w u' _ (rows.getD (j-1) []) (rows.getD j []) M HU.o (HL.o (j-1)) hm);obtain⟨a2,a6,rfl,-⟩:=M;have i3:(0:Int)<(j:Int):=Oo;have i4:((j:Int)-1).toNat=j-1:=Oo;clear hp fin nxt h4 HU;generalize qE (rows.getD (j-1) []) (rows.getD j [])=y at *;generalize (rows.getD j []).length=m at *;generalize (rows.getD (j-1) []).length=m' at *;subst h1;have i5:¬(0<=y):=Oo;go_wp2_with (first|(go_at_call 132;refine HK.o.mono ?_;rintro e w' ⟨rfl,a9⟩;subst w'));go_round;exact⟨j+1,Oo,Gg,U⟩;exact Im
 obtain rfl:j=n:=Oo;have U:Hh (res=true):=HR.o.trans (ur (λi hi=>O.o i (by rw[HN.o];exact hi)));have i1:¬((j:Int)<(j:Int)):=Oo;clear O;go_wp2;go_ret;exact⟨qK (by rw[U.o]),rfl⟩
theorem QY(w:World)(vr:Value)(rows:LL)(q:Int)(h:ISS w vr rows)(hl:qT rows):
 Cl 85 #[vr,ai q] w λe w'=>e=.returned (.bool (xt rows q))/\∃q,w'=w.drewN q:=by
 obtain⟨a,cap,rfl,hc⟩:=h;obtain⟨a7,a3⟩:=hl;obtain⟨n,hn⟩:=Ex rows.length;obtain⟨res,K⟩:=Ex (xt rows q);rw[<-K];rw[<-hn]at hc a7 ⊢;have HR:=ay K;have HC:=ay hc;have HN:=ay hn;have HL:=ay a3;clear hc hn K a3;go_enter Tryz.func85,Tryz.ntmps85;go_wp2;go_loopw [9] (λt wr=>∃j:Nat,j<=n/\t=ai j/\Hh (∃k,wr=w.drewN k)/\Hh (∀i,i<j->rowAt rows q i=true)) (λt _=>n-(intOf t).toNat);exact⟨0,nZ _,rfl,ay ⟨0,rfl⟩,ay (λi hi=>Oo)⟩;obtain⟨j,hj,rfl,hB,O⟩:=hrel;by_cases a4:j<n
 ·have i1:(j:Int)<(n:Int):=Oo;rcases HC.o with h0|⟨b,o,rfl,I⟩;omega;obtain⟨u,c1,hu⟩:∃u,wr.cell? (az b (o+j))=some u/\IS wr u (rows.getD j []):=by obtain⟨k,rfl⟩:=hB.o;exact I j a4
  have a8:=Zj rows q j;have fin:rowAt rows q j=false->Hh (res=false):=λe=>HR.o.trans (Zi (by rw[<-HN.o];exact a4) e);have nxt:rowAt rows q j=true->Hh (∀i,i<j+1->rowAt rows q i=true):=λe i hi=>by
   by_cases e2:i=j;rw[e2];exact e;exact O.o i Oo
  have hp:0<j->∃u',wr.cell? (az b (o+(j-1)))=some u'/\IS wr u' (rows.getD (j-1) []):=λe=>by obtain⟨k,rfl⟩:=hB.o;exact I (j-1) Oo
  have HU:=ay hu;have hm:=HL.o j;obtain⟨a1,a5,rfl,-⟩:=hu;clear I O;rcases a8 with ⟨h1,V⟩|⟨h1,V,h3⟩|⟨h1,V,h3,h4⟩|⟨h1,V,h3,h4⟩
  ·have U:=fin V;clear hp fin nxt V;generalize (rows.getD j []).length=m at *;go_wp2;go_ret;exact⟨qK (by rw[U.o]),hB.o⟩
  ·have U:=nxt h3;subst V;have b0:wr.cell? (az b o)=some (.slice a1 (rows.getD 0 []).length a5):=by simpa using c1
   clear hp fin nxt h3 HU;generalize (rows.getD 0 []).length=m at *;subst h1;go_wp2;go_roundw;exact⟨0+1,Oo,Gg,hB,U⟩;exact Im
  ·have U:=fin h4;obtain⟨u',c2,M⟩:=hp V;have HK:=ay (zL wr u' _ (rows.getD (j-1) []) (rows.getD j []) M HU.o (HL.o (j-1)) hm);obtain⟨a2,a6,rfl,-⟩:=M;have i3:(0:Int)<(j:Int):=Oo;have i4:((j:Int)-1).toNat=j-1:=Oo;clear hp fin nxt h4 HU;generalize qE (rows.getD (j-1) []) (rows.getD j [])=y at *;generalize (rows.getD j []).length=m at *;generalize (rows.getD (j-1) []).length=m' at *;subst h1;go_wp2_with (first|(go_at_call 48;refine HK.o.mono ?_;rintro e w' ⟨rfl,q',a9⟩;subst w'));go_ret;exact⟨qK (by rw[U.o]),zY _ hB.o⟩
  have U:=nxt h4;obtain⟨u',c2,M⟩:=hp V;have HK:=ay (zL wr u' _ (rows.getD (j-1) []) (rows.getD j []) M HU.o (HL.o (j-1)) hm);obtain⟨a2,a6,rfl,-⟩:=M;have i3:(0:Int)<(j:Int):=Oo;have i4:((j:Int)-1).toNat=j-1:=Oo;clear hp fin nxt h4 HU;generalize qE (rows.getD (j-1) []) (rows.getD j [])=y at *;generalize (rows.getD j []).length=m at *;generalize (rows.getD (j-1) []).length=m' at *;subst h1;have i5:¬(0<=y):=Oo;go_wp2_with (first|(go_at_call 48;refine HK.o.mono ?_;rintro e w' ⟨rfl,q',a9⟩;subst w'));go_roundw;exact⟨j+1,Oo,Gg,ay (zY _ hB.o),U⟩;exact Im
 obtain rfl:j=n:=Oo;have U:Hh (res=true):=HR.o.trans (ur (λi hi=>O.o i (by rw[HN.o];exact hi)));have i1:¬((j:Int)<(j:Int)):=Oo;clear O;go_wp2;go_ret;exact⟨qK (by rw[U.o]),hB.o⟩
theorem Tryz.infoRatS:(Tryz.prog.info? 36).map (λi=>(i.zero,i.size,i.bytes))=some (some (.agg #[ai 0,ai 0]),2,16):=Kl
def zs(k:Nat):List Value:=(List.replicate k [ai 0,ai 1]).flatten
theorem qBV(k:Nat):zs (k+1)=zs k++[ai 0,ai 1]:=by
 simp[zs,List.replicate_succ',List.flatten_append]
theorem zT{wr w1:World}{o:Obj}(hB:B<=wr.1.size)
 (K:wr.ownsRow B e s u n xs) (M:Below B w wr) (I:(wr.alloc o).grownBy w1 u.ownBlock):Below B w w1:=
 (M.alloc hB o).grown I Sy (λj O=>(K.lt j O).1)
theorem Uj(w:World)(n:Nat)(hn:n<=1000):
 Cl 202 #[ai n] w λe w'=>∃v,e=.returned v/\w'.ownsRow w.1.size 36 2 v n (zs n)/\Bl w w':=by
 obtain⟨i0,hi,a3,a4,a5⟩:=info_parts Tryz.infoRatS;go_enter Tryz.func202,Tryz.ntmps202;go_wp2;go_loopw [3,4] (λv t wr=>∃k:Nat,k<=n/\t=ai k/\wr.ownsRow w.1.size 36 2 v k (zs k)/\Bl w wr) (λ_ t _=>n-(intOf t).toNat);exact⟨0,nZ _,rfl,oM w #[] 0 (nR _) Dd rfl,aK⟩;obtain⟨k,hk,rfl,I,O⟩:=hrel;have a6:=O.size;by_cases a7:k<n
 ·have i1:(k:Int)<(n:Int):=Oo;go_wp2_with (first
   |(at_builtin;refine wpList_append_own _ rfl _ _ 35 rfl w.1.size 36 i0 (.agg #[ai 0,ai 0]) 2 16 Tryz.underlying35 hi a3 a4 a5 rfl Dd _ _ _ rfl (I.alloc _) (az wr.1.size 0) 1 1 [ai 0,ai 1] rfl rfl ?c1 ?c2 ?c3 ?c4 ?c5 ?_))
  case c1=>
   intro j u U;match j,U with
   |0,U=>simp at U;subst U;simp[Addr.add]
   |1,U=>simp at U;subst U;simp[Addr.add]
  case c2=>intro u hu;simp at hu;rcases hu with rfl|rfl <;> rfl
  case c3=>unfold maxLen;omega
  case c4=>omega
  case c5=>simp;omega
  intro v' w1 K M _;have hb:=zT a6 I O M;have V:w1.ownsRow w.1.size 36 2 v' (k+1) (zs (k+1)):=by
   rw[qBV];exact K
  clear K M I;go_wp2;go_roundw;exact⟨k+1,Oo,Gg,V,hb⟩;exact Im
 obtain rfl:k=n:=Oo;have i1:¬((k:Int)<(k:Int)):=Oo;go_wp2;go_ret;exact⟨_,rfl,I,O⟩
def IR(w:World)(v:Value)(l:List (Int×Int)):Prop:=∃a cap,v=.slice a l.length cap/\(l.length=0∨∃b o,a=some (az b o)/\∀j,j<l.length->
 w.cell? (az b (o+j*2))=some (ai (l.getD j (0,0)).1)/\w.cell? (az b (o+j*2+1))=some (ai (l.getD j (0,0)).2))
def rcs(l:List (Int×Int)):List Value:=l.flatMap λp=>[ai p.1,ai p.2]
theorem qEQ(l:List (Int×Int))(k:Nat)(h:k<l.length):rcs (l.take (k+1))=rcs (l.take k)++[ai (l.getD k (0,0)).1,ai (l.getD k (0,0)).2]:=by
 unfold rcs;rw[tA,gE h,gD,gE h];simp only[Option.toList_some,List.flatMap_append,List.flatMap_cons,List.flatMap_nil,List.append_nil,Option.getD_some]
theorem qB(h:w.ownsRow B e s v n xs)(hb:Bl w w'):w'.ownsRow B e s v n xs:=by
 obtain⟨O,I⟩:=h;refine⟨O,?_⟩;rcases I with I|⟨g,cap,cur,hv,U,K,V⟩;exact Or.inl I;refine Or.inr ⟨g,cap,cur,hv,U,?_,V⟩;rw[hb.block g (by
  rcases Nat.lt_or_ge g w.1.size with M|M;exact M;rw[Array.getElem?_eq_none M]at K;cases K)]
 exact K
theorem J9(w:World)(v:Value)(l:List (Int×Int))(h:IR w v l)(hl:l.length<=1000)
 (hp:∀j,j<l.length->(-1000000<=(l.getD j (0,0)).1/\(l.getD j (0,0)).1<=1000000)/\(-1000000<=(l.getD j (0,0)).2/\(l.getD j (0,0)).2<=1000000)):
 Cl 120 #[v] w λe w'=>∃v,e=.returned v/\w'.ownsRow w.1.size 36 2 v l.length (rcs l)/\Bl w w':=by
 obtain⟨i0,hi,b0,b1,b7⟩:=info_parts Tryz.infoRatS;obtain⟨a,cap,rfl,hc⟩:=h;obtain⟨n,hn⟩:=Ex l.length;obtain⟨out,U⟩:=Ex (rcs l);rw[<-U];rw[<-hn]at hc hl hp ⊢;have HC:=ay hc;have HP:=ay hp;have HN:=ay hn;have HO:=ay U;clear hc hp hn U;go_enter Tryz.func120,Tryz.ntmps120;go_wp2_with (at_make;refine wpList_make_own _ rfl _ _ 35 rfl w.1.size 36 i0 (.agg #[ai 0,ai 0]) 2 Tryz.underlying35 hi b0 b1 _ _ _ n rfl rfl rfl ?b2 ?b3 (nR _) ?_)
 case b2=>rw[b7];omega
 case b3=>unfold maxLen;omega
 intro w0 V K;have b8:Bl w w0:=(bJ _ _).grown K (nR _) (λj hj=>by cases hj);clear K;go_wp2;go_loopw [3,11] (λv t wr=>∃k:Nat,k<=n/\t=ai k/\wr.ownsRow w.1.size 36 2 v k (rcs (l.take k))/\Bl w wr) (λ_ t _=>n-(intOf t).toNat);exact⟨0,nZ _,rfl,V,b8⟩;obtain⟨k,hk,rfl,M,O⟩:=hrel;have c8:=O.size;by_cases a7:k<n
 ·have i1:(k:Int)<(n:Int):=Oo;rcases HC.o with h0|⟨b,o,rfl,a3⟩;omega;obtain⟨d1,d2⟩:=a3 k a7;have c1:=(O.cell (p:=(az b (o+k*2))) (bL w _ d1)).trans d1;have c2:=(O.cell (p:=(az b (o+k*2+1))) (bL w _ d2)).trans d2;obtain⟨⟨p1,p2⟩,p3,p4⟩:=HP.o k a7;have HS:=ay (qEQ l k (by rw[<-HN.o];exact a7));clear a3 d1 d2 V b8;generalize (l.getD k (0,0)).1=x at *;generalize (l.getD k (0,0)).2=y at *;go_wp2_with fail;have b9:Bl w (wr.alloc (.cells #[ai x,ai y] 158)):=O.alloc c8 _;have a4:=M.alloc (.cells #[ai x,ai y] 158);clear M c1 c2 O;generalize wr.alloc (.cells #[ai x,ai y] 158)=wa at *;refine(Vr x y wa p1 p2 p3 p4).mono ?_;rintro e w2 ⟨rfl,a8⟩;have I:=qB a4 a8;have c7:Bl w w2:=bt b9 a8;have c9:=c7.size;clear a4 a8 b9;go_wp2_with (first
   |(at_builtin;refine wpList_append_own _ rfl _ _ 35 rfl w.1.size 36 i0 (.agg #[ai 0,ai 0]) 2 16 Tryz.underlying35 hi b0 b1 b7 rfl Dd _ _ _ rfl (I.alloc _) (az w2.1.size 0) 1 1 [ai x,ai y] rfl rfl ?c1 ?c2 ?c3 ?c4 ?c5 ?_))
  case c1=>
   intro j u hj;match j,hj with
   |0,hj=>simp at hj;subst hj;simp[Addr.add]
   |1,hj=>simp at hj;subst hj;simp[Addr.add]
  case c2=>intro u hu;simp at hu;rcases hu with rfl|rfl <;> rfl
  case c3=>unfold maxLen;omega
  case c4=>omega
  case c5=>simp;omega
  intro v' w1 a5 a6 _;have hb:=zT c9 I c7 a6;have a9:w1.ownsRow w.1.size 36 2 v' (k+1) (rcs (l.take (k+1))):=by
   rw[HS.o];exact a5
  clear a5 a6 I;go_wp2;go_roundw;exact⟨k+1,Oo,Gg,a9,hb⟩;exact Im
 obtain rfl:k=n:=Oo;have i1:¬((k:Int)<(k:Int)):=Oo;rw[HN.o,tL,<-HN.o,<-HO.o]at M;go_wp2;go_ret;exact⟨_,rfl,M,O⟩
theorem JQ(w:World)(g cap:Nat)(l:LI)(k:Int)(h:OwnI w g l)(hl:l.length<=1099511627776)(hk:0<=k)(a3:k<=1099511627776):
 Cl 38 #[.slice (some (az g 0)) l.length cap,ai k] w λe w'=>e=.returned (ai (k+l.length))/\OwnI w' g (kB k l.length)/\Og g w w':=by
 obtain⟨n,U⟩:=Ex l.length;have V:Hh ((∀j,j<n->w.cell? (az g j)=some (ai (l.getD j 0)))/\∀j,j<n->w.frozen? (az g j)=false):=by rw[U];exact⟨h.cell,h.free⟩
 have K:=h.lt;rw[<-U]at hl ⊢;clear h U;go_enter Tryz.func38,Tryz.ntmps38;go_wp2;go_loopw [1,5] (λu t wr=>∃j:Nat,j<=n/\t=ai j/\u=ai (k+j)/\Og g w wr/\Hh ((∀i,i<n->wr.cell? (az g i)=some (ai (if i<j then k+(i:Nat) else l.getD i 0)))/\∀i,i<n->wr.frozen? (az g i)=false)) (λ_ t _=>n-(intOf t).toNat);exact⟨0,nZ _,rfl,Ss,Og.refl _ _,ay ⟨λi hi=>by rw[if_neg Oo];exact V.o.1 i hi,V.o.2⟩⟩;obtain⟨j,hj,rfl,rfl,hB,I⟩:=hrel;by_cases M:j<n
 ·have i1:(j:Int)<(n:Int):=Oo;have c2:wr.cell? (az g j)=some (ai (if j<j then k+(j:Nat) else l.getD j 0)):=I.o.1 j M;have c3:wr.frozen? (az g j)=false:=I.o.2 j M;go_wp2;go_roundw
  case rel=>
   refine⟨j+1,Oo,Gg,Gg,hB.set _ _,ay ⟨λi hi=>?_,λi hi=>by rw[fS];exact I.o.2 i hi⟩⟩;by_cases e:i=j;subst e;rw[if_pos Oo];exact bG _ _ _ c2;rw[bC _ _ _ _ (by intro O;simp only[Addr.mk.injEq]at O;omega),I.o.1 i hi];by_cases O:i<j;rw[if_pos O,if_pos Oo];rw[if_neg O,if_neg Oo]
  case measure=>simp[intOf];omega
 obtain rfl:j=n:=Oo;have i1:¬((j:Int)<(j:Int)):=Oo;go_wp2;go_ret;refine⟨rfl,⟨λi hi=>?_,λi hi=>I.o.2 i (by rwa[uf]at hi),by rw[hB.size];exact K⟩,hB⟩;rw[uf]at hi;rw[I.o.1 i hi,if_pos hi,Xy hi]
theorem JR(w:World)(g cap:Nat)(n:Nat)(k:Int)(h:OwnI w g (kB k n))(hl:n<=1099511627776)(hk:0<=k)(M:k<=1099511627776):
 Cl 41 #[.slice (some (az g 0)) n cap,ai k] w λe w'=>e=.returned (ai (k+n))/\w'=w:=by
 have O:Hh (∀j,j<n->w.cell? (az g j)=some (ai (k+(j:Nat)))):=λj I=>by
  have:=h.cell j (by rw[uf];exact I);rwa[Xy I]at this
 clear h;go_enter Tryz.func41,Tryz.ntmps41;go_wp2;go_loop [1,5] (λu t=>∃j:Nat,j<=n/\t=ai j/\u=ai (k+j)) (λ_ t=>n-(intOf t).toNat);exact⟨0,nZ _,rfl,Ss⟩;obtain⟨j,I,rfl,rfl⟩:=hrel;by_cases K:j<n
 ·have U:(j:Int)<(n:Int):=Oo;have c2:w.cell? (az g j)=some (ai (k+(j:Nat))):=O.o j K;have V:((k+(j:Int)) != (k+(j:Int)))=false:=Ss;go_wp2;go_round;exact⟨j+1,Oo,Gg,Gg⟩;exact Im
 obtain rfl:j=n:=Oo;have U:¬((j:Int)<(j:Int)):=Oo;go_wp2;go_ret;exact⟨rfl,rfl⟩
theorem qC(h:w.ownsRow B e s v n xs)(hb:∀g,v.ownBlock=some g->w'.1[g]?=w.1[g]?):w'.ownsRow B e s v n xs:=by
 obtain⟨M,I⟩:=h;refine⟨M,?_⟩;rcases I with I|⟨g,cap,cur,rfl,K,O,U⟩;exact Or.inl I;exact Or.inr ⟨g,cap,cur,rfl,K,(hb g rfl).trans O,U⟩
theorem qS(h:w.ownsRow B 3 1 v l.length (l.map ai)):IS w v l:=by
 rcases h.2 with ⟨rfl,I⟩|⟨g,cap,cur,rfl,M,O,U⟩;exact⟨none,0,by rw[I],Or.inl I⟩;refine⟨_,cap,rfl,Or.inr ⟨g,0,rfl,λj K=>?_⟩⟩;rw[Nat.zero_add,h.cellAt j Oo,bK,gE K,gD,gE K];rfl
theorem qDm{cap:Nat}(h:w.ownsRow B 3 1 (.slice (some (az g 0)) l.length cap) l.length (l.map ai)):OwnI w g l where
 cell j hj:=by
  rw[h.cellAt j Oo,bK,gE hj,gD,gE hj];rfl
 free j _:=h.frozenAt j
 lt:=(h.lt g rfl).2
theorem JT(w:World)(a:Option Addr)(cap:Nat)(k:Int):
 Cl 38 #[.slice a 0 cap,ai k] w λe w'=>e=.returned (ai k)/\w'=w:=by
 go_enter Tryz.func38,Tryz.ntmps38;go_wp2;refine wp_loop_rounds 1 ?_;rw[rounds_succ];go_wp2;go_ret;exact⟨rfl,rfl⟩
theorem JU(w:World)(a:Option Addr)(cap:Nat)(k:Int):
 Cl 41 #[.slice a 0 cap,ai k] w λe w'=>e=.returned (ai k)/\w'=w:=by
 go_enter Tryz.func41,Tryz.ntmps41;go_wp2;refine wp_loop_rounds 1 ?_;rw[rounds_succ];go_wp2;go_ret;exact⟨rfl,rfl⟩
structure Fr(lo hi:Nat)(w w':World):Prop where
 os:w'.os=w.os
 tape:w'.tape=w.tape
 output:w'.output=w.output
 size:w.1.size<=w'.1.size
 block:∀b,b<w.1.size->(b<lo∨hi<=b)->w'.1[b]?=w.1[b]?
theorem Fr.refl(lo hi:Nat)(w:World):Fr lo hi w w:=⟨rfl,rfl,rfl,nR _,λ_ _ _=>rfl⟩
theorem Fr.trans{lo hi:Nat}(h:Fr lo hi a b)(k:Fr lo hi b c):Fr lo hi a c:=
 ⟨k.os.trans h.os,k.tape.trans h.tape,k.output.trans h.output,bM h.size k.size,λx I K=>(k.block x (bN I h.size) K).trans (h.block x I K)⟩
theorem Fr.bel{lo hi:Nat}(h:Fr lo hi a b)(k:Bl b c):Fr lo hi a c:=
 h.trans ⟨k.os,k.tape,k.output,k.size,λx I _=>k.block x I⟩
theorem Fr.set{lo hi:Nat}(h:Fr lo hi a b)(I:lo<=g)(K:g<hi):Fr lo hi a (b.setCell (az g o) v):=
 h.trans ⟨rfl,rfl,rfl,by simp[World.setCell],λx _ M=>bD _ _ _ _ (by show x≠g;omega)⟩
structure Mk(lo hi:Nat)(w w':World):Prop where
 fr:Fr lo hi w w'
 num:∀b q x,w.cell? (az b q)=some (ai x)->∃y,w'.cell? (az b q)=some (ai y)
 str:∀b q x,w.cell? (az b q)=some (.string x)->∃y,w'.cell? (az b q)=some (.string y)
 sl:∀b q a n c,w.cell? (az b q)=some (.slice a n c)->w'.cell? (az b q)=some (.slice a n c)
 froz:∀b q,b<w.1.size->w.frozen? (az b q)=false->w'.frozen? (az b q)=false
section
variable {lo hi:Nat} {a b c:World}
theorem Mk.refl(lo hi:Nat)(a:World):Mk lo hi a a:=⟨Fr.refl _ _ _,λ_ _ x h=>⟨x,h⟩,λ_ _ x h=>⟨x,h⟩,λ_ _ _ _ _ h=>h,λ_ _ _ h=>h⟩
theorem Mk.trans(h:Mk lo hi a b)(k:Mk lo hi b c):Mk lo hi a c:=
 ⟨h.fr.trans k.fr,λx q u e=>by obtain⟨y,I⟩:=h.num x q u e;exact k.num x q y I,λx q u e=>by obtain⟨y,I⟩:=h.str x q u e;exact k.str x q y I,λx q u n m e=>k.sl x q u n m (h.sl x q u n m e),λx q e f=>k.froz x q (bN e h.fr.size) (h.froz x q e f)⟩
theorem qEH{x q:Nat}(h:Bl W W')(e:W.cell? (az x q)=some u):W'.cell? (az x q)=some u:=(h.cell (p:=(az x q)) (bL W _ e)).trans e
theorem Mk.of_below(h:Bl a b):Mk lo hi a b:=
 ⟨(Fr.refl lo hi a).bel h,λ_ _ u e=>⟨u,qEH h e⟩,λ_ _ u e=>⟨u,qEH h e⟩,λ_ _ _ _ _ e=>qEH h e,λx q e f=>(h.frozen (p:=(az x q)) e).trans f⟩
theorem Mk.setI{x y:Int}(h:a.cell? (az g o)=some (ai x))(K:lo<=g)(M:g<hi):Mk lo hi a (a.setCell (az g o) (ai y)):=by
 have ne:∀{b q:Nat} {u:Value},a.cell? (az b q)=some u->(b=g/\q=o)∨(a.setCell (az g o) (ai y)).cell? (az b q)=some u:=λ{b q u} e=>by
  by_cases I:b=g/\q=o;exact Or.inl I;exact Or.inr ((bC _ _ _ _ (by intro O;simp only[Addr.mk.injEq]at O;exact I ⟨Oo,Oo⟩)).trans e)
 refine⟨(Fr.refl lo hi a).set K M,λb q u e=>?_,λb q u e=>?_,λb q u n m e=>?_,λb q _ f=>by rw[fS];exact f⟩
 ·rcases ne e with ⟨rfl,rfl⟩|I;exact⟨y,bG _ _ _ h⟩;exact⟨u,I⟩
 ·rcases ne e with ⟨rfl,rfl⟩|I;rw[h]at e;cases e
  exact⟨u,I⟩
 rcases ne e with ⟨rfl,rfl⟩|I;rw[h]at e;cases e
 exact I
end
structure ShI(lo hi:Nat)(W:World)(g n:Nat):Prop where
 lo:lo<=g
 hi:g<hi
 lt:g<W.1.size
 cell:∀j,j<n->∃x,W.cell? (az g j)=some (ai x)
 free:∀j,j<n->W.frozen? (az g j)=false
theorem ShI.kp{lo hi:Nat}(h:ShI lo hi W g n)(k:Mk lo hi W W'):ShI lo hi W' g n:=
 ⟨h.lo,h.hi,bN h.lt k.fr.size,λj I=>by obtain⟨x,e⟩:=h.cell j I;exact k.num _ _ _ e,λj I=>k.froz _ _ h.lt (h.free j I)⟩
theorem OwnI.sh{lo hi:Nat}(h:OwnI W g l)(I:lo<=g)(K:g<hi):ShI lo hi W g l.length:=⟨I,K,h.lt,λj M=>⟨_,h.cell j M⟩,h.free⟩
theorem ye(w:World)(lo hi g n cap k:Nat)(h:ShI lo hi w g n)(hn:n<=1048576)(hk:k<=1099511627776):
 Cl 38 #[.slice (some (az g 0)) n cap,ai (k:Int)] w λe w'=>e=.returned (ai ((k+n:Nat):Int))/\Mk lo hi w w':=by
 have O:=ay h;clear h;go_enter Tryz.func38,Tryz.ntmps38;go_wp2;go_loopw [1,5] (λu t wr=>∃j:Nat,j<=n/\t=ai j/\u=ai ((k+j:Nat):Int)/\Hh (Mk lo hi w wr)) (λ_ t _=>n-(intOf t).toNat);exact⟨0,nZ _,rfl,rfl,ay (Mk.refl _ _ _)⟩;obtain⟨j,hj,rfl,rfl,I⟩:=hrel;by_cases K:j<n
 ·have U:(j:Int)<(n:Int):=Oo;have M:=O.o.kp I.o;obtain⟨x,c2⟩:=M.cell j K;have c3:=M.free j K;have V:Hh (∀y:Int,Mk lo hi w (wr.setCell (az g j) (ai y))):=ay λy=>I.o.trans (Mk.setI c2 M.lo M.hi);clear M I;go_wp2;go_roundw;exact⟨j+1,Oo,Gg,Gg,ay (V.o _)⟩;exact Im
 obtain rfl:j=n:=Oo;have U:¬((j:Int)<(j:Int)):=Oo;go_wp2;go_ret;first|exact⟨rfl,I.o⟩|exact I.o
def vP(ln:Nat->Nat):Nat->Nat
 |0=>0
 |j+1=>vP ln j+ln j
theorem qBC(I:Nat->Nat):∀{i j:Nat},i<=j->vP I i<=vP I j
 |i,0,h=>by
  have e:i=0:=Nat.le_zero.1 h;subst e;exact nR _
 |i,j+1,h=>by
  by_cases e:i=j+1;rw[e];exact nR _;exact bM (qBC I (i:=i) (j:=j) Oo) (Nat.le_add_right _ _)
theorem XM(ls:LL):∀k,k<=ls.length->tot ls k=ls.length+vP (λi=>(ls.getD i []).length) k
 |0,_=>by rw[XB];rfl
 |k+1,h=>by rw[ke ls k Oo,XM ls k Oo];show _=ls.length+(vP _ k+(ls.getD k []).length);omega
def ShSS(lo hi:Nat)(W:World)(G n:Nat)(ln:Nat->Nat):Prop:=∀j,j<n->∃c,W.cell? (az G j)=some (.slice (some (az c 0)) (ln j) (ln j))/\ShI lo hi W c (ln j)
theorem ShSS.kp{lo hi:Nat}{G:Nat}{I:Nat->Nat}(h:ShSS lo hi W G n I)(k:Mk lo hi W W'):ShSS lo hi W' G n I:=λj K=>by
 obtain⟨c,e,M⟩:=h j K;exact⟨c,k.sl _ _ _ _ _ e,M.kp k⟩
theorem Qt(w:World)(lo hi G n cap k:Nat)(I:Nat->Nat)(h:ShSS lo hi w G n I)(hn:n<=1048576)(hs:vP I n<=1048576)(hk:k<=99511627776):
 Cl 39 #[.slice (some (az G 0)) n cap,ai (k:Int)] w λe w'=>e=.returned (ai ((k+vP I n:Nat):Int))/\Mk lo hi w w':=by
 have HS:=ay h;have HL:Hh (∀i,i<n->vP I i+I i<=1048576):=ay λi hi=>bM (qBC I (show i+1<=n from hi)) hs;clear h hs;go_enter Tryz.func39,Tryz.ntmps39;go_wp2;go_loopw [1,5] (λu t wr=>∃j:Nat,j<=n/\t=ai j/\∃c:Nat,u=ai (c:Int)/\Hh (c=k+vP I j/\Mk lo hi w wr)) (λ_ t _=>n-(intOf t).toNat);exact⟨0,nZ _,rfl,k,rfl,ay ⟨rfl,Mk.refl _ _ _⟩⟩;obtain⟨j,hj,rfl,c,rfl,M⟩:=hrel;by_cases O:j<n
 ·have i1:(j:Int)<(n:Int):=Oo;obtain⟨b,c2,hb⟩:=(HS.o.kp M.o.2) j O;have hL:=HL.o j O;have K:=ay (ye wr lo hi b (I j) (I j) c hb Oo (by rw[M.o.1];omega));have HE:Hh (c+I j=k+vP I (j+1)):=ay (by rw[M.o.1];show _=k+(vP I j+I j);omega);have U:=ay M.o.2;clear hb hL M;generalize I j=m at *;go_wp2_with fail;refine K.o.mono ?_;rintro e w2 ⟨rfl,V⟩;have HN:=ay (U.o.trans V);clear V K c2;go_wp2_with fail;go_roundw;exact⟨j+1,Oo,Gg,_,rfl,ay ⟨HE.o,HN.o⟩⟩;exact Im
 obtain rfl:j=n:=Oo;have i1:¬((j:Int)<(j:Int)):=Oo;go_wp2;go_ret;exact⟨qR (by have:=M.o.1;omega),M.o.2⟩
end Go.Proofs.YtcnfapnfmnolbaaGreat
