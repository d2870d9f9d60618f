import Derived.Laws.AppendOwnNone
import Derived.Test.YtcnfapnfmnolbaaGreatRq24
import Derived.Test.YtcnfapnfmnolbaaGreatRq34
set_option maxHeartbeats 40000000
set_option maxRecDepth 1000000
namespace Go.Proofs.YtcnfapnfmnolbaaGreat
open Go.RowKit
variable {bag l:LI}{es:LL}{xs:List Value}{B B' b j k n s:Nat}{x:Nat->Rat}{v:Value}{W w:World}
def yr(n:Nat)(all:List Dem)(xs:Nat->Rat)(k:Nat)(ch:List Dem)(best:Option (Nat->Rat))(e:Ending)(w':World):Prop:=
 ∃v best',e=.returned v/\BestAt w' n all v best'/\((ZD n xs best∨Compl n all xs k ch)->ZD n xs best')
theorem qDc(w:World)(I:Value)(n:Nat)(ps:List (Value×Dem))(K:1<=n)(O:n<=7)(hl:ps.length=n)(U:DP w I ps)(M:∀p∈ps,zj n p.2)(V:¬Cov.Kern n ((ps.map Prod.snd).map Dem.dm)):
 Cl 166 #[ai n,I] w λe w'=>e=.returned (.tuple #[sn,.bool false])/\Bl w w':=
 (QR w I n ps K O hl U M).mono (by
  rintro e w' ⟨h|⟨v,x,rfl,h1,h2,h3,h4⟩,hb⟩;exact⟨h.1,hb⟩;exact absurd h4 V)
theorem qCV(w:World)(I:Value)(n:Nat)(ps:List (Value×Dem))(K:1<=n)(O:n<=7)(hl:ps.length=n)(U:DP w I ps)(M:∀p∈ps,zj n p.2)(V:Cov.Kern n ((ps.map Prod.snd).map Dem.dm)):
 Cl 166 #[ai n,I] w λe w'=>∃v x,e=.returned (.tuple #[v,.bool true])/\IR w' v (prs n x)/\Parts n x/\VO n (ps.map Prod.snd) x/\Bl w w':=
 (QR w I n ps K O hl U M).mono (by
  rintro e w' ⟨h|⟨v,x,rfl,h1,h2,h3,h4⟩,hb⟩;exact absurd V h.2;exact⟨v,x,rfl,h1,h2,h3,hb⟩)
theorem jc{all:List Dem}{xs:Nat->Rat}{I:List Dem}(K:I.length=n)(ho:VO n I x)(h:Compl n all xs k I):∀i,i<n->x i=xs i:=
 λi hi=>(ho xs (YW h K).1 i hi).symm
theorem qAF{D:Dem}{y:Nat->Rat}(h:∀i,i<n->x i=y i)(I:D.dm.meets n x):D.dm.meets n y:=by
 unfold Cov.Dm.meets at I ⊢;rw[<-Cov.at_congr D.dm h];exact I
theorem BestAt.form{all:List Dem}{b:Option (Nat->Rat)}(h:BestAt w n all v b):∃a lb cap,v=.slice a lb cap/\Hh ((b=none->lb=0)/\(b≠none->lb=n)):=by
 cases b with
 |none=>
  obtain⟨a,cap,e⟩:=h;exact⟨a,0,cap,e,ay ⟨λ_=>rfl,λh=>absurd rfl h⟩⟩
 |some b=>
  obtain⟨⟨a,cap,e,-⟩,-⟩:=h;rw[qc]at e;exact⟨a,n,cap,e,ay ⟨(λh=>by cases h),λ_=>rfl⟩⟩
theorem V8(n:Nat)(most:Bool)(I:List (Value×Dem))(xs:Nat->Rat)(d3:1<=n)(hn:n<=7)(e0:I.length<=100)(a6:∀p∈I,zj n p.2)(hS:ZC n most (I.map Prod.snd) xs)
 (w:World) (k:Nat) (va vc vb:Value) (U:List (Value×Dem)) (best:Option (Nat->Rat)) (ha:DP w va I) (hc:DP w vc U) (a7:U.length=n) (V:∀p∈U,zj n p.2) (hb:BestAt w n (I.map Prod.snd) vb best):
 Cl 142 #[ai n,va,ai k,vc,vb,.bool most] w λe w'=>yr n (I.map Prod.snd) xs k (U.map Prod.snd) best e w'/\Bl w w':=by
 obtain⟨all,K⟩:=Ex (I.map Prod.snd);rw[<-K]at hS hb ⊢;obtain⟨ch,a5⟩:=Ex (U.map Prod.snd);rw[<-a5];have O:ch.length=n:=by rw[a5,lM];exact a7
 obtain⟨ab,lb,cb,rfl,d4⟩:=hb.form;have a8:=ay hb;have HS:=ay hS;by_cases hk:Cov.Kern n (ch.map Dem.dm)
 ·have KS:Hh (Cl 166 #[ai n,vc] w λe w'=>∃v x,e=.returned (.tuple #[v,.bool true])/\IR w' v (prs n x)/\Parts n x/\VO n ch x/\Bl w w'):=ay (by rw[a5]at hk ⊢;exact qCV w vc n U d3 hn a7 hc V hk);obtain⟨⟨av,cv,rfl,_⟩,_⟩:=hc;obtain⟨⟨aa,ca,rfl,a3⟩,a4⟩:=ha;obtain⟨m,hm⟩:=Ex I.length;have HA:Hh (∀j,j<m->∃b o u d,aa=some (az b o)/\all.getD j yw=d/\d∈all/\zj n d/\IntsAt w u d.pl/\w.cell? (az b (o+j*3))=some u/\w.cell? (az b (o+j*3+1))=some (.bool d.up)/\w.cell? (az b (o+j*3+2))=some (ai d.bd)):=ay (λj hj=>by
   rcases a3 with h0|⟨b,o,e,b8⟩;omega;have b9:I.getD j pd0∈I:=xr Oo;obtain⟨h1,h2,h3⟩:=ZP I j Oo;exact⟨b,o,(I.getD j pd0).1,(I.getD j pd0).2,e,by rw[K];exact jw I j,by rw[K];exact List.mem_map.2 ⟨_,b9,rfl⟩,a6 _ b9,a4 _ b9,b8 _ _ h1,b8 _ _ h2,b8 _ _ h3⟩)
  have e4:Hh (all.length=m):=ay (by rw[K,lM,hm]);rw[a7]at KS ⊢;rw[<-hm]at e0 ⊢;clear hk a3 a4 a6 V hb hS K a5 hm;go_enter Tryz.func142,Tryz.ntmps142;go_upto_region 3 with (first|(go_at_call 166;refine KS.o.mono ?_;rintro e w1 ⟨vx,x,rfl,hx,hp,ho,a9⟩));have HX:=ay hx;have HP:=ay hp;have HO:=ay ho;have e5:=ay a9;obtain⟨ax,cx,rfl,-⟩:=hx;rw[qc]at HX ⊢;clear hp ho a9 KS;go_wp2;go_loopw [33] (λt wr=>∃j:Nat,j<=m/\t=ai j/\Hh (Bl w1 wr/\∀i,i<j->(all.getD i yw).dm.meets n x)) (λt _=>m-(intOf t).toNat);exact⟨0,nZ _,rfl,ay ⟨bJ _ _,λi hi=>Oo⟩⟩;obtain⟨j,hj,rfl,hH⟩:=hrel;have HW:=ay (bt e5.o hH.o.1);have d5:=ay hH.o.2;have c7:=ay hH.o.1;clear hH;by_cases e6:j<m
  ·have i1:(j:Int)<(m:Int):=Oo;obtain⟨b,o,u,d,rfl,hd,d6,c8,hu,e1,e2,e3⟩:=HA.o j e6;have c1:=(HW.o.cell (p:=(az b (o+j*3))) (bL w _ e1)).trans e1;have c2:=(HW.o.cell (p:=(az b (o+j*3+1))) (bL w _ e2)).trans e2;have c3:=(HW.o.cell (p:=(az b (o+j*3+2))) (bL w _ e3)).trans e3;have d7:=hu.below HW.o;have KM:Hh (∀W,Bl wr W->Cl 167 #[.slice ax n cx,.agg #[u,.bool d.up,ai d.bd]] W λe w'=>e=.returned (.bool (kd n d x))/\Bl W w'):=ay (λW hW=>UP W _ u n d x (HX.o.below (bt c7.o hW)) (d7.below hW) c8 HP.o);have HD:=ay (And.intro hd d6);obtain⟨au,cu,rfl,-⟩:=hu;obtain⟨q,hq⟩:=Ex d.pl.length;rw[<-hq]at c1 KM;have e7:-1<=d.bd/\d.bd<=1:=by rcases c8.bd with h|h <;> omega
   clear hd d6 c8 e1 e2 e3 d7 hq;cases hmt:kd n d x
   ·rw[hmt]at KM;have b0:∀o,Bl wr (wr.alloc o):=λo=>(bJ _ _).alloc (nR _) o;have b1:=ay b0;have c9:=ay hmt;clear hmt b0;go_wp2_with (first|(go_at_call 167;refine(KM.o _ (b1.o _)).mono ?_;rintro e w2 ⟨rfl,M⟩));go_ret;have d8:=bt HW.o (bt (b1.o _) M);refine⟨⟨_,best,rfl,a8.o.below d8,λh=>h.elim id (λh=>?_)⟩,d8⟩;exfalso;have h1:=jc O HO.o h;have h2:=JF.2 (qAF (λi hi=>(h1 i hi).symm) (HS.o.meets d HD.o.2));rw[c9.o]at h2;cases h2
   rw[hmt]at KM;have b0:∀o,Bl wr (wr.alloc o):=λo=>(bJ _ _).alloc (nR _) o;have b1:=ay b0;have c9:=ay hmt;clear hmt b0;go_wp2_with (first|(go_at_call 167;refine(KM.o _ (b1.o _)).mono ?_;rintro e w2 ⟨rfl,M⟩));go_roundw
   case rel=>exact⟨j+1,Oo,Gg,ay ⟨bt c7.o (bt (b1.o _) M),λi hi=>by
    by_cases e:i=j;rw[e,HD.o.1];exact JF.1 c9.o;exact d5.o i Oo⟩⟩
   case measure=>simp[intOf];omega
  obtain rfl:m=j:=Oo;have i1:¬((m:Int)<(m:Int)):=Oo;have d0:Hh (InP n all x):=ay (λD hD=>by
   obtain⟨r,hr,rfl⟩:=ZB (d:=yw) hD;exact d5.o r (by rw[<-e4.o];exact hr))
  have d1:=ay (HX.o.below c7.o);cases best with
  |none=>
   obtain rfl:lb=0:=d4.o.1 rfl;go_wp2;go_ret;refine⟨⟨_,some x,rfl,⟨d1.o,d0.o,HP.o⟩,λh=>h.elim (λh=>False.elim h) (λh=>jc O HO.o h)⟩,HW.o⟩
  |some bb=>
   obtain rfl:n=lb:=(d4.o.2 Ss).symm;have b7:=a8.o.below HW.o;have i2:¬((n:Int)=0):=Oo;have i3:((n:Int) == 0)=false:=Sy;have KB:Hh (Cl 168 #[.slice ax n cx,.slice ab n cb,.bool most] wr λe w'=>e=.returned (.bool (jF n most x bb))/\Bl wr w'):=ay (Yh wr _ _ n most x bb hn d1.o b7.1 HP.o b7.2.2);have d9:=ay b7;clear b7;cases hbf:jF n most x bb
   ·rw[hbf]at KB;have d2:=ay hbf;clear hbf;go_wp2_with (first|(go_at_call 168;refine KB.o.mono ?_;rintro e w2 ⟨rfl,M⟩));go_ret;refine⟨⟨_,some bb,rfl,d9.o.below M,λh=>h.elim id (λh=>?_)⟩,bt HW.o M⟩;exact qDU HS.o d9.o.2.1 d2.o (jc O HO.o h)
   rw[hbf]at KB;have d2:=ay hbf;clear hbf;go_wp2_with (first|(go_at_call 168;refine KB.o.mono ?_;rintro e w2 ⟨rfl,M⟩));go_ret;refine⟨⟨_,some x,rfl,⟨d1.o.below M,d0.o,HP.o⟩,λh=>h.elim (λh=>?_) (λh=>jc O HO.o h)⟩,bt HW.o M⟩;exact qDT HS.o d0.o d2.o h
 have KS:Hh (Cl 166 #[ai n,vc] w λe w'=>e=.returned (.tuple #[sn,.bool false])/\Bl w w'):=ay (by rw[a5]at hk;exact qDc w vc n U d3 hn a7 hc V hk);obtain⟨⟨av,cv,rfl,_⟩,_⟩:=hc;obtain⟨⟨aa,ca,rfl,_⟩,_⟩:=ha;rw[a7]at KS ⊢;have HK:=ay hk;clear hk a6 V hb hS K a5;go_enter Tryz.func142,Tryz.ntmps142;go_wp2_with (first|(go_at_call 166;refine KS.o.mono ?_;rintro e w1 ⟨rfl,a9⟩));go_ret;refine⟨⟨_,best,rfl,a8.o.below a9,λh=>h.elim id (λh=>?_)⟩,a9⟩;exact absurd (YW h O).2 HK.o
theorem V9(n:Nat)(most:Bool)(I:List (Value×Dem))(xs:Nat->Rat)(hn:n<=7)(a3:I.length<=100)
 (w:World) (k:Nat) (hk:k<=I.length) (U V vb:Value) (K:List (Value×Dem)) (best:Option (Nat->Rat)) (ha:DP w U I) (hc:DP w V K) (a4:K.length<n) (hb:BestAt w n (I.map Prod.snd) vb best) (O:I.length<k+n-K.length):
 Cl 142 #[ai n,U,ai k,V,vb,.bool most] w λe w'=>yr n (I.map Prod.snd) xs k (K.map Prod.snd) best e w'/\Bl w w':=by
 obtain⟨ab,lb,cb,rfl,a5⟩:=hb.form;have M:=ay hb;have HC:Hh (¬Compl n (I.map Prod.snd) xs k (K.map Prod.snd)):=ay (λh=>qCO h (by rw[lM,lM];exact O) (by rw[lM];exact hk));obtain⟨⟨av,cv,rfl,_⟩,_⟩:=hc;obtain⟨⟨aa,ca,rfl,_⟩,_⟩:=ha;clear hb;generalize hm:I.length=m at *;generalize hq:K.length=q at *;have i1:¬((q:Int)=(n:Int)):=Oo;have i2:((q:Int) == (n:Int))=false:=Sy;have i3:(m:Int)<(k:Int)+(n:Int)-(q:Int):=Oo;clear hm hq;go_enter Tryz.func142,Tryz.ntmps142;go_wp2;go_ret;exact⟨⟨_,best,rfl,M.o,λh=>h.elim id (λh=>absurd h HC.o)⟩,bJ _ _⟩
theorem yt{P:Program}{ops:Array Oper}{o:Oper}{a:Act}{K:Act->World->Prop}{Q:Exit->Act->World->Prop}{E:Prop}(O:o.guard=none)(s x:Operand)(t:TypeId)
 (ho:o.op=.call { callee:=.builtin .append,args:=#[s,x],argTypes:=#[t,t] })
 (base:Nat) (e:TypeId) (i:TypeInfo) (size:Nat) (U:P.underlying t=some (.slice e)) (hi:P.info? e=some i)
 (v:Value) (n:Nat) (xs:List Value) (hs:a.eval s=v) (I:w.ownsRow base e size v n xs) (V:a.eval x=sn)
 (h:K (a.put o.dst v) w):if Region.wanted o (yielded ops a.tmps)=true then Oper.wp P o a w K Q else E:=by
 have hw:Region.wanted o (yielded ops a.tmps)=true:=by simp[Region.wanted,O]
 rw[if_pos hw];have M:=run_append_owned_none (P:=P) (w:=w) base t o.type e i size U hi v n xs I;unfold Oper.wp;simp[execOp,ho,resolve,invoke,builtin,hs,V,M,Result.andThen];exact h
theorem jG(b o j:Nat):((az b o):Addr).add j=(az b (o+j)):=by
 unfold Addr.add;split <;> simp_all
theorem jd(w:World)(x y z:Value)(t:TypeId):∀j u,[x,y,z][j]?=some u->(w.alloc (.cells #[x,y,z] t)).cell? (((az w.1.size 0):Addr).add j)=some u:=by
 intro j u I;match j,I with
 |0,I=>simp at I;subst I;simp[Addr.add]
 |1,I=>simp at I;subst I;simp[Addr.add]
 |2,I=>simp at I;subst I;simp[Addr.add]
theorem Tryz.infoDem:(Tryz.prog.info? 183).map (λi=>(i.zero,i.size,i.bytes))=some (some (.agg #[sn,.bool false,ai 0]),3,40):=Kl
def eD:Obj:=.cells #[] 183
def dD(u:Value)(d:Dem):Obj:=.cells #[u,.bool d.up,ai d.bd] 183
section
variable {w:World} {u:Value} {d:Dem}
theorem Ut:(w.alloc eD).ownsRow w.1.size 183 3 (.slice (some (az w.1.size 0)) 0 0) 0 []:=oM w #[] 0 (nR _) Dd rfl
theorem qGF:((w.alloc eD).alloc (dD u d)).ownsRow w.1.size 183 3 (.slice (some (az w.1.size 0)) 0 0) 0 []:=Ut.alloc _
theorem qGG:((w.alloc (dD u d)).alloc eD).ownsRow w.1.size 183 3 (.slice (some (az (w.1.size+1) 0)) 0 0) 0 []:=by
 have:=oM (base:=w.1.size) (e:=183) (size:=3) (w.alloc (dD u d)) #[] 0 Ss Dd rfl;rw[show(w.alloc (dD u d)).1.size=w.1.size+1 by simp]at this;exact this
theorem qGH:∀j x,[u,.bool d.up,ai d.bd][j]?=some x->((w.alloc (dD u d)).alloc eD).cell? (((az w.1.size 0):Addr).add j)=some x:=λj x I=>by
 have:=jd w u (.bool d.up) (ai d.bd) 183 j x I;rw[jG]at this ⊢;rw[World.cell?_alloc_past _ _ _ Ss];exact this
theorem qGI:∀j x,[u,.bool d.up,ai d.bd][j]?=some x->((w.alloc eD).alloc (dD u d)).cell? (((az (w.1.size+1) 0):Addr).add j)=some x:=by
 have:=jd (w.alloc eD) u (.bool d.up) (ai d.bd) 183;rw[show(w.alloc eD).1.size=w.1.size+1 by simp]at this;exact this
end
theorem Z7{y a:Nat}(h:(Value.slice (some (az y 0)) a b).ownBlock=some k):y=k:=by
 simpa[Value.ownBlock]using h
theorem Va{w3:World}{x y z:Value}{g:Nat}(M:∀j u,[x,y,z][j]?=some u->W.cell? (((az s 0):Addr).add j)=some u)(hs:s<W.1.size)(I:s≠g)(O:W.drew.grownBy w3 (Value.slice (some (az g 0)) 0 k).ownBlock):∀j u,[x,y,z][j]?=some u->w3.cell? (((az s 0):Addr).add j)=some u:=by
 intro j u U;have K:=M j u U;rw[jG]at K ⊢;exact(bF (w:=W) (a:=(az s (0+j))) (O.block _ hs (by simpa[Value.ownBlock]using I))).trans K
theorem qAv{w2:World}{I:List (Value×Dem)}{p:Value×Dem}(M:∀q∈I,IntsAt w q.1 q.2.pl)(O:IntsAt w p.1 p.2.pl)(hb:Bl w w2)(K:w2.ownsRow B 183 3 v (I.length+1) (dcs I++[p.1,.bool p.2.up,ai p.2.bd])):DP w2 v (I++[p]):=by
 refine qCm (B:=B) (by rw[JG,lA];exact K) (λq hq=>?_);rcases List.mem_append.1 hq with h|h;exact(M q h).below hb;rw[List.mem_singleton.1 h];exact O.below hb
theorem UA(n:Nat)(most:Bool)(O:List (Value×Dem))(xs:Nat->Rat)(hn:n<=7)(k3:O.length<=100)(d8:∀p∈O,zj n p.2)
 (w:World) (k:Nat) (va vc vb:Value) (I:List (Value×Dem)) (best:Option (Nat->Rat)) (ha:DP w va O) (hc:DP w vc I) (g9:I=[]->vc=sn) (k4:I.length<n) (c9:∀p∈I,zj n p.2) (hb:BestAt w n (O.map Prod.snd) vb best) (k5:k+n-I.length<=O.length)
 (d9:∀(w:World) (vc vb:Value) (I:List (Value×Dem)) (best:Option (Nat->Rat)),DP w va O->DP w vc I->(I=[]->vc=sn)->I.length<=n->(∀p∈I,zj n p.2)->BestAt w n (O.map Prod.snd) vb best->
  Cl 142 #[ai n,va,ai ((k:Int)+1),vc,vb,.bool most] w λe w'=>yr n (O.map Prod.snd) xs (k+1) (I.map Prod.snd) best e w'/\Bl w w'):
 Cl 142 #[ai n,va,ai k,vc,vb,.bool most] w λe w'=>yr n (O.map Prod.snd) xs k (I.map Prod.snd) best e w'/\Bl w w':=by
 obtain⟨i0,hi,a4,a6,a7⟩:=info_parts Tryz.infoDem;have f7:k<O.length:=Oo;obtain⟨pk,d5⟩:=Ex (O.getD k pd0);have f8:pk∈O:=by rw[d5];exact xr f7
 have j2:Hh (Compl n (O.map Prod.snd) xs k (I.map Prod.snd)->Compl n (O.map Prod.snd) xs (k+1) ((I++[pk]).map Prod.snd)∨Compl n (O.map Prod.snd) xs (k+1) (I.map Prod.snd)):=ay (λh=>by
  have:=qCN (by rw[lM];exact f7) h;rw[jw,<-d5]at this;rw[mA];exact this)
 obtain⟨ab,lb,cb,rfl,k6⟩:=hb.form;have HA:=ay ha;have HC:=ay hc;have h4:=ay g9;have h5:=ay hb;have e0:=ay d9;have h6:Hh (∀p∈I++[pk],zj n p.2):=ay (λp hp=>by
  rcases List.mem_append.1 hp with h|h;exact c9 p h;rw[List.mem_singleton.1 h];exact d8 pk f8)
 have j3:=ay c9;have h7:=ay hc.each;have f9:=ay (ha.each pk f8);obtain⟨⟨av,cv,rfl,a3⟩,_⟩:=hc;obtain⟨⟨aa,ca,rfl,b0⟩,_⟩:=ha;have d0:∃b o,aa=some (az b o)/\w.cell? (az b (o+k*3))=some pk.1/\w.cell? (az b (o+k*3+1))=some (.bool pk.2.up)/\w.cell? (az b (o+k*3+2))=some (ai pk.2.bd):=by
  rcases b0 with h0|⟨b,o,e,a8⟩;omega;obtain⟨h1,h2,h3⟩:=ZP O k f7;rw[<-d5]at h1 h2 h3;exact⟨b,o,e,a8 _ _ h1,a8 _ _ h2,a8 _ _ h3⟩
 obtain⟨b,o,rfl,e1,e2,e3⟩:=d0;have FX:Hh (∀W,Bl w W->W.cell? (az b (o+k*3))=some pk.1/\W.cell? (az b (o+k*3+1))=some (.bool pk.2.up)/\W.cell? (az b (o+k*3+2))=some (ai pk.2.bd)):=ay (λW hW=>⟨(hW.cell (p:=(az b (o+k*3))) (bL w _ e1)).trans e1,(hW.cell (p:=(az b (o+k*3+1))) (bL w _ e2)).trans e2,(hW.cell (p:=(az b (o+k*3+2))) (bL w _ e3)).trans e3⟩);have d1:=ay (qFD HC.o);obtain⟨u,d⟩:=pk;obtain⟨au,cu,g5,_⟩:=f9.o;simp only at g5;have d2:Hh (∀x∈[u,.bool d.up,ai d.bd],x.oneCell'=true):=ay (λx hx=>by
  simp only[List.mem_cons,List.not_mem_nil,or_false]at hx;rcases hx with rfl|rfl|rfl;rw[g5];rfl;rfl;rfl)
 subst g5;generalize d.pl.length=lu at *;have j4:=ay (qA3 I);clear d5 f8 d9 c9 d8 hb b0 g9;generalize hm:O.length=m at *;generalize hq:I.length=q at *;have i1:¬((q:Int)=(n:Int)):=Oo;have i2:((q:Int) == (n:Int))=false:=Sy;have i3:¬((m:Int)<(k:Int)+(n:Int)-(q:Int)):=Oo;have i4:(k:Int)<(m:Int):=Oo;have HM:=ay hm;have HQ:=ay hq;clear hm hq;go_enter Tryz.func142,Tryz.ntmps142;go_upto_region 16 with fail;go_cut [17] (λv wx=>Hh (Bl w wx/\DP wx v (I++[((.slice au lu cu:Value),d)])))
 case first=>
  have b1:Bl w (w.alloc eD):=(bJ _ _).alloc (nR _) _;have b2:Bl w ((w.alloc eD).alloc (dD (.slice au lu cu) d)):=b1.alloc b1.size _;have o1:=Ut (w:=w);have o2:=qGF (w:=w) (u:=.slice au lu cu) (d:=d);have n2:=qGI (w:=w) (u:=.slice au lu cu) (d:=d);have b4:Bl w (w.alloc (dD (.slice au lu cu) d)):=(bJ _ _).alloc (nR _) _;have b3:Bl w ((w.alloc (dD (.slice au lu cu) d)).alloc eD):=b4.alloc b4.size _;have o3:=qGG (w:=w) (u:=.slice au lu cu) (d:=d);have n3:=qGH (w:=w) (u:=.slice au lu cu) (d:=d);have j5:((w.alloc (dD (.slice au lu cu) d)).alloc eD).1.size=w.1.size+2:=Ss;have b7:w.1.size<=((w.alloc (dD (.slice au lu cu) d)).alloc eD).1.size:=b3.size;have j6:((w.alloc eD).alloc (dD (.slice au lu cu) d)).1.size=w.1.size+2:=Ss;have e4:w.1.size<=(w.alloc eD).1.size:=b1.size;have b8:w.1.size<=((w.alloc eD).alloc (dD (.slice au lu cu) d)).1.size:=b2.size;obtain⟨p1,p2,p3⟩:=FX.o _ b1;by_cases k0:q=0
  ·subst k0;have e6:I=[]:=List.length_eq_zero_iff.1 HQ.o;have hv:=h4.o e6;simp only[Value.slice.injEq]at hv;obtain⟨rfl,-,rfl⟩:=hv;have h8:=ay e6;clear a3;unfold eD dD at *;go_region_law (first
    |(refine yt Fl _ _ _ Fl w.1.size 183 i0 3 Tryz.underlying181 hi _ 0 [] Fl o1 Fl ?_)
    |(refine yt Fl _ _ _ Fl w.1.size 183 i0 3 Tryz.underlying181 hi _ 0 [] Fl o2 Fl ?_)
    |(refine yt Fl _ _ _ Fl w.1.size 183 i0 3 Tryz.underlying181 hi _ 0 [] Fl o3 Fl ?_)
    |(refine step_append_lies _ Fl _ _ _ Fl w.1.size 183 i0 (.agg #[sn,.bool false,ai 0]) 3 40 Tryz.underlying181 hi a4 a6 a7 rfl Dd _ 0 [] Fl o2 (az (w.1.size+1) 0) 1 1 [.slice au lu cu,.bool d.up,ai d.bd] Fl Fl n2 d2.o Dd Dd Dd b8 _ rfl ?_;intro g3 cp3 w3 K M b9 c7;have U:Bl w w3:=b2.drew.grown M b8 (λk e=>by have:=Z7 e;omega))
    |(refine step_append_lies _ Fl _ _ _ Fl w.1.size 183 i0 (.agg #[sn,.bool false,ai 0]) 3 40 Tryz.underlying181 hi a4 a6 a7 rfl Dd _ 0 [] Fl o3 (az w.1.size 0) 1 1 [.slice au lu cu,.bool d.up,ai d.bd] Fl Fl n3 d2.o Dd Dd Dd b7 _ rfl ?_;intro g3 cp3 w3 K M b9 c7;have U:Bl w w3:=b3.drew.grown M b7 (λk e=>by have:=Z7 e;omega))
    |fail)
   all_goals
    go_wp2_with fail
    go_meet
    refine ay ⟨U,qAv h7.o f9.o U (B:=w.1.size) ?_⟩
    rw[h8.o]
    exact K
  have g6:0<q:=Oo;have d0:∃b2 o2,av=some (az b2 o2)/\∀j u,(dcs I)[j]?=some u->w.cell? (az b2 (o2+j))=some u:=by
   rcases a3 with h0|h;omega;exact h
  obtain⟨bc,oc,rfl,a8⟩:=d0;have k7:q<=7:=Oo;have h9:∀j u,(dcs I)[j]?=some u->((w.alloc eD).alloc (dD (.slice au lu cu) d)).cell? (((az bc oc):Addr).add j)=some u:=λj u hj=>by
   have h1:=a8 j u hj;rw[jG];exact(b2.cell (p:=(az bc (oc+j))) (bL w _ h1)).trans h1
  have i5:∀j u,(dcs I)[j]?=some u->(w.alloc eD).cell? (((az bc oc):Addr).add j)=some u:=λj u hj=>by
   have h1:=a8 j u hj;rw[jG];exact(b1.cell (p:=(az bc (oc+j))) (bL w _ h1)).trans h1
  have g7:=j4.o;have i6:∀j u,(dcs I)[j]?=some u->((w.alloc (dD (.slice au lu cu) d)).alloc eD).cell? (((az bc oc):Addr).add j)=some u:=λj u hj=>by
   have h1:=a8 j u hj;rw[jG];exact(b3.cell (p:=(az bc (oc+j))) (bL w _ h1)).trans h1
  have i7:∀w3,((w.alloc (dD (.slice au lu cu) d)).alloc eD).drew.grownBy w3 (Value.slice (some (az (w.1.size+1) 0)) 0 0).ownBlock->Bl w w3:=λw3 h=>b3.drew.grown h b7 (λk e=>by have:=Z7 e;omega);have c8:∀w3,(w.alloc eD).drew.grownBy w3 (Value.slice (some (az w.1.size 0)) 0 0).ownBlock->Bl w w3:=λw3 h=>b1.drew.grown h e4 (λk e=>by have:=Z7 e;omega);have d3:∀w3,((w.alloc eD).alloc (dD (.slice au lu cu) d)).drew.grownBy w3 (Value.slice (some (az w.1.size 0)) 0 0).ownBlock->Bl w w3:=λw3 h=>b2.drew.grown h b8 (λk e=>by have:=Z7 e;omega);clear a3 a8;unfold eD dD at *;go_region_law (first
   |(refine step_append_lies _ Fl _ _ _ Fl w.1.size 183 i0 (.agg #[sn,.bool false,ai 0]) 3 40 Tryz.underlying181 hi a4 a6 a7 rfl Dd _ 0 [] Fl o1 (az bc oc) q cv (dcs I) Fl g7 i5 d1.o g6 Um Oo e4 _ rfl ?_;intro g3 cp3 w3 K M b9 c7;simp only[Nat.zero_add,List.nil_append]at K;have U:=c8 w3 M;obtain⟨r1,r2,r3⟩:=FX.o w3 U)
   |(refine step_append_lies _ Fl _ _ _ Fl w.1.size 183 i0 (.agg #[sn,.bool false,ai 0]) 3 40 Tryz.underlying181 hi a4 a6 a7 rfl Dd _ 0 [] Fl o2 (az bc oc) q cv (dcs I) Fl g7 h9 d1.o g6 Um Oo b8 _ rfl ?_;intro g3 cp3 w3 K M b9 c7;simp only[Nat.zero_add,List.nil_append]at K;have U:=d3 w3 M;have nB:=Va n2 (by rw[j6];omega) Oo M)
   |(refine step_append_lies _ Fl _ _ _ Fl w.1.size 183 i0 (.agg #[sn,.bool false,ai 0]) 3 40 Tryz.underlying181 hi a4 a6 a7 rfl Dd _ 0 [] Fl o3 (az bc oc) q cv (dcs I) Fl g7 i6 d1.o g6 Um Oo b7 _ rfl ?_;intro g3 cp3 w3 K M b9 c7;simp only[Nat.zero_add,List.nil_append]at K;have U:=i7 w3 M;have nC:=Va n3 (by rw[j5];omega) Oo M)
   |(refine step_append_lies _ Fl _ _ _ Fl w.1.size 183 i0 (.agg #[sn,.bool false,ai 0]) 3 40 Tryz.underlying181 hi a4 a6 a7 rfl Dd _ _ _ Fl (K.alloc _) (az w3.1.size 0) 1 1 [.slice au lu cu,.bool d.up,ai d.bd] Fl Fl (jd w3 _ _ _ _) d2.o Dd Um Oo (bM U.size Ss) _ rfl ?_;intro g4 i8 w4 a9 V e7 e8;have d6:Bl w w4:=(U.alloc U.size _).grown V (bM U.size Ss) (λk e=>(K.lt k e).1))
   |(refine step_append_lies _ Fl _ _ _ Fl w.1.size 183 i0 (.agg #[sn,.bool false,ai 0]) 3 40 Tryz.underlying181 hi a4 a6 a7 rfl Dd _ _ _ Fl K (az (w.1.size+1) 0) 1 1 [.slice au lu cu,.bool d.up,ai d.bd] Fl Fl nB d2.o Dd Um Oo U.size _ rfl ?_;intro g4 i8 w4 a9 V e7 e8;have d6:Bl w w4:=U.grown V U.size (λk e=>(K.lt k e).1))
   |(refine step_append_lies _ Fl _ _ _ Fl w.1.size 183 i0 (.agg #[sn,.bool false,ai 0]) 3 40 Tryz.underlying181 hi a4 a6 a7 rfl Dd _ _ _ Fl K (az w.1.size 0) 1 1 [.slice au lu cu,.bool d.up,ai d.bd] Fl Fl nC d2.o Dd Um Oo U.size _ rfl ?_;intro g4 i8 w4 a9 V e7 e8;have d6:Bl w w4:=U.grown V U.size (λk e=>(K.lt k e).1))
   |fail)
  all_goals
   go_wp2_with fail
   go_meet
   refine ay ⟨d6,qAv h7.o f9.o d6 (B:=w.1.size) ?_⟩
   rw[HQ.o]
   simpa using a9
 case rest=>
  have HX:=hcut;obtain⟨⟨a5,c5,e5,-⟩,-⟩:=HX.o.2;rw[lA,HQ.o]at e5;simp only[List.length_cons,List.length_nil,Nat.zero_add]at e5;subst e5;have K1:Hh (Cl 142 #[ai n,.slice (some (az b o)) m ca,ai ((k:Int)+1),.slice a5 (q+1) c5,.slice ab lb cb,.bool most] wc λe w'=>yr n (O.map Prod.snd) xs (k+1) ((I++[((.slice au lu cu:Value),d)]).map Prod.snd) best e w'/\Bl wc w'):=
   ay (e0.o wc _ _ _ best (HA.o.below HX.o.1) HX.o.2 (λh=>by simp at h) (by rw[lA,HQ.o];simp;omega) h6.o (h5.o.below HX.o.1))
  go_upto_region 18 with (first|(go_at_call 142;refine K1.o.mono ?_;rintro e w1 ⟨⟨v1,d4,rfl,c8,e9⟩,i9⟩));have d7:=bt HX.o.1 i9;have K2:Hh (Cl 142 #[ai n,.slice (some (az b o)) m ca,ai ((k:Int)+1),.slice av q cv,v1,.bool most] w1 λe w'=>yr n (O.map Prod.snd) xs (k+1) (I.map Prod.snd) d4 e w'/\Bl w1 w'):=
   ay (e0.o w1 _ _ _ d4 (HA.o.below d7) (HC.o.below d7) h4.o (by rw[HQ.o];omega) j3.o c8)
  have j0:=ay e9;have k1:=ay d7;clear e9 i9 c8 d7;go_wp2_with (first|(go_at_call 142;refine K2.o.mono ?_;rintro e w2 ⟨⟨v2,g8,rfl,d3,j1⟩,k2⟩));go_ret;refine⟨⟨_,g8,rfl,d3,λh=>j1 ?_⟩,bt k1.o k2⟩;rcases h with h|h;exact Or.inl (j0.o (Or.inl h));rcases j2.o h with h1|h1;exact Or.inl (j0.o (Or.inr h1));exact Or.inr h1
theorem jy(n:Nat)(most:Bool)(I:List (Value×Dem))(xs:Nat->Rat)(a4:1<=n)(hn:n<=7)(U:I.length<=100)(O:∀p∈I,zj n p.2)(hS:ZC n most (I.map Prod.snd) xs)(va:Value):
 ∀(f:Nat) (w:World) (k:Nat) (V vb:Value) (K:List (Value×Dem)) (best:Option (Nat->Rat)),I.length-k<=f->k<=I.length->DP w va I->DP w V K->(K=[]->V=sn)->K.length<=n->(∀p∈K,zj n p.2)->BestAt w n (I.map Prod.snd) vb best->
  Cl 142 #[ai n,va,ai (k:Nat),V,vb,.bool most] w λe w'=>yr n (I.map Prod.snd) xs k (K.map Prod.snd) best e w'/\Bl w w'
 |f,w,k,V,vb,K,best,hf,hk,ha,hc,a3,a5,M,hb=>by
  by_cases h1:K.length=n;exact V8 n most I xs a4 hn U O hS w k va V vb K best ha hc h1 M hb;by_cases h2:I.length<k+n-K.length;exact V9 n most I xs hn U w k hk va V vb K best ha hc Oo hb h2;match f,hf with
  |0,hf=>omega
  |f+1,hf=>
   refine UA n most I xs hn U O w k va V vb K best ha hc a3 Oo M hb Oo (λw V vb K best ha hc a3 a5 M hb=>?_);have:=jy n most I xs a4 hn U O hS va f w (k+1) V vb K best Oo Oo ha hc a3 a5 M hb;rw[show((k+1:Nat):Int)=(k:Int)+1 by omega]at this;exact this
def ZU(l:List Nat):List Value:=(l.map Int.ofNat).map ai
structure DL(W:World)(B:Nat)(v:Value)(ps:List (Value×Dem)):Prop where
 own:W.ownsRow B 183 3 v ps.length (dcs ps)
 each:∀p∈ps,W.ownsRow B 3 1 p.1 p.2.pl.length (ZU p.2.pl)
theorem qED{l:List Nat}(h:W.ownsRow B 3 1 v l.length (ZU l)):IntsAt W v l:=by
 have O:W.ownsRow B 3 1 v (l.map Int.ofNat).length ((l.map Int.ofNat).map ai):=by rw[lM];exact h
 obtain⟨a,cp,e,K⟩:=qS O;rw[lM]at e K;refine⟨a,cp,e,λj M=>?_⟩;rcases K with V|⟨b,o,U,I⟩;omega;refine⟨b,o,U,(I j M).trans ?_⟩;rw[gD,bK,gD,gE M];rfl
section
variable {W W' w3:World} {B:Nat} {v v' u:Value} {ps qs:List (Value×Dem)} {p:Value×Dem} {o:Obj}
theorem DL.below(h:DL W B v ps)(hb:Bl W W'):DL W' B v ps:=⟨qB h.own hb,λp I=>qB (h.each p I) hb⟩
theorem DL.dp(h:DL W B v ps):DP W v ps:=qCm h.own (λp I=>qED (h.each p I))
theorem DL.nil(W:World):DL (W.alloc eD) W.1.size (.slice (some (az W.1.size 0)) 0 0) []:=⟨Ut,λp I=>by cases I⟩
theorem DL.base(h:DL W B v ps)(hB:B'<=B):DL W B' v ps:=⟨qF h.own hB,λp I=>qF (h.each p I) hB⟩
theorem zk(K:(W.alloc o).grownBy w3 v.ownBlock)(hb:b<W.1.size)(I:some b≠v.ownBlock):w3.1[b]?=W.1[b]?:=
 (K.block b Sy I).trans (Below.heap_alloc _ _ _ hb)
theorem DL.step(h:DL W B v ps)(U:W.ownsRow B 3 1 p.1 p.2.pl.length (ZU p.2.pl))(I:w3.ownsRow B 183 3 v' (ps.length+1) (dcs ps++[p.1,.bool p.2.up,ai p.2.bd]))(V:(W.alloc o).grownBy w3 v.ownBlock):DL w3 B v' (ps++[p]):=by
 have hint:∀{x:Value} {k:Nat} {xs:List Value},W.ownsRow B 3 1 x k xs->w3.ownsRow B 3 1 x k xs:=λM=>
  qC M (λg K=>zk V ((M.lt g K).2) (λe=>own_ne h.own (qN M K) Dd e))
 refine⟨by rw[JG,lA];exact I,λq hq=>?_⟩;rcases List.mem_append.1 hq with O|O;exact hint (h.each q O);rw[List.mem_singleton.1 O];exact hint U
end
theorem UO{α β:Type}(f:α->β)(l:List α)(d:α)(h:k<l.length):(l.take (k+1)).map f=(l.take k).map f++[f (l.getD k d)]:=by
 rw[tA,gE h,mA,gD,gE h];rfl
theorem qC7(p:Nat->Bool)(k:Nat):(plc p k).map ai=ZU (plN p k):=rfl
theorem qFY(p:Nat->Bool)(k:Nat):(plc p k).length=(plN p k).length:=by rw[qGA,lM]
theorem ISS.get(h:ISS w v es){a:Option Addr}{cap:Nat}(hv:v=.slice a n cap)(M:j<es.length):∃b o u,a=some (az b o)/\w.cell? (az b (o+j))=some u/\IS w u (es.getD j []):=by
 obtain⟨a',K,e,I⟩:=h;rw[hv]at e;simp only[Value.slice.injEq]at e;obtain⟨rfl,-,-⟩:=e;rcases I with h0|⟨b,o,O,I⟩;omega;obtain⟨u,U,V⟩:=I j M;exact⟨b,o,u,O,U,V⟩
theorem qAS(n:Nat)(most:Bool)(I:List (Value×Dem))(x:Nat->Rat)(U:1<=n)(hn:n<=7)(V:I.length<=100)(M:∀D∈I.map Prod.snd,zj n D)(hS:ZC n most (I.map Prod.snd) x)(va:Value)(w:World)(ha:DP w va I):
 Cl 142 #[ai n,va,ai 0,sn,sn,.bool most] w λe w'=>∃v,e=.returned v/\IR w' v (prs n x)/\Bl w w':=by
 have:=jy n most I x U hn V (λp O=>M _ (List.mem_map.2 ⟨p,O,rfl⟩)) hS va I.length w 0 sn sn [] none Oo Oo ha ⟨⟨none,0,rfl,Or.inl rfl⟩,λp O=>by cases O⟩ (λ_=>rfl) Ss (λp O=>by cases O) ⟨none,0,rfl⟩;refine this.mono ?_;rintro e w' ⟨⟨v,K,rfl,a3,a4⟩,hb⟩;have h1:=a4 (Or.inr (qAk hS));cases K with
 |none=>exact absurd h1 id
 |some b=>exact⟨v,rfl,by rw[<-qCl h1];exact a3.1,hb⟩
structure AT(W:World)(gd:Nat)(v:Value)(up:Bool):Prop where
 typ:∃cur,W.1[gd]?=some (.cells cur 183 (0,0))
 arr:ArrAt W gd 3 (f3 v (.bool up) (ai 1))
section
variable {W W' w1:World} {gd:Nat} {v v':Value} {up:Bool}
theorem AT.new(W:World)(v:Value)(up:Bool):AT (W.alloc (.cells #[v,.bool up,ai 1] 183)) W.1.size v up:=⟨⟨_,heap_alloc_new _ _⟩,zG W 3 (f3 v (.bool up) (ai 1)) 183⟩
theorem AT.move(h:AT W gd v up)(e:W'.1[gd]?=W.1[gd]?):AT W' gd v up:=⟨by rw[e];exact h.typ,h.arr.move e⟩
theorem AT.lt(h:AT W gd v up):gd<W.1.size:=xX h.typ
theorem AT.set(h:AT W gd v up)(v':Value):AT (W.setCell (az gd 0) v') gd v' up:=by
 refine⟨qX h.typ,?_⟩;have:=h.arr.set (i:=0) Oo v';refine⟨λj I=>?_,this.free⟩;rw[this.cell j I];match j,I with
 |0,_=>rfl
 |1,_=>rfl
 |2,_=>rfl
theorem AT.grow{o:Obj}{U:List Value}(h:AT W gd v up)(K:W.ownsRow B 3 1 v n xs)(I:w1.ownsRow B 3 1 v' k U)(V:(W.alloc o).grownBy w1 v.ownBlock):
 (w1.cell? (az gd 0)=some v/\w1.frozen? (az gd 0)=false)/\AT (w1.setCell (az gd 0) v') gd v' up/\(w1.setCell (az gd 0) v').ownsRow B 3 1 v' k U:=by
 have hk:w1.1[gd]?=W.1[gd]?:=zk V h.lt (own_ne K h.typ Dd);have M:=h.move hk;refine⟨⟨M.arr.cell 0 Oo,M.arr.free 0 Oo⟩,M.set v',?_⟩;exact qC I (λg O=>bD _ _ _ _ (λe=>own_ne I M.typ Dd (by rw[O];exact congrArg some e.symm)))
end
theorem qBz(I:k<bag.length):xB ((qQ bag es).take (k+1))=xB ((qQ bag es).take k)++[⟨plN (λi=>decide (bag.getD k 0∈es.getD i [])) es.length,false,1⟩]:=by
 unfold xB;rw[UO _ _ [] (by rw[yW];exact I),uw bag es I]
theorem qAT(k:Nat):xn (k+1)=xn k++[⟨[k],false,0⟩]:=by
 unfold xn;rw[List.range_succ,mA];rfl
def xj(k:Int)(l:LI)(j:Nat):Bool:=decide (0<=l.getD j 0)&&decide (l.getD j 0<k)&&(decide (j=0)||decide (l.getD (j-1) 0<l.getD j 0))
def zx(k:Int)(l:LI):Bool:=(List.range l.length).all (xj k l)
theorem YF{k:Int}(h:∀i,i<l.length->xj k l i=true):zx k l=true:=qh h
theorem qAX{k:Int}(I:j<l.length)(h:xj k l j=false):zx k l=false:=qf I h
theorem qAY(k:Int)(l:LI)(j:Nat):
 (l.getD j 0<0/\xj k l j=false)∨(0<=l.getD j 0/\k<=l.getD j 0/\xj k l j=false)∨(0<=l.getD j 0/\l.getD j 0<k/\j=0/\xj k l j=true)∨
 (0<=l.getD j 0/\l.getD j 0<k/\0<j/\l.getD j 0<=l.getD (j-1) 0/\xj k l j=false)∨(0<=l.getD j 0/\l.getD j 0<k/\0<j/\l.getD (j-1) 0<l.getD j 0/\xj k l j=true):=by
 unfold xj;generalize l.getD j 0=x;generalize l.getD (j-1) 0=y;by_cases K:x<0;left;refine⟨K,?_⟩;simp;omega;by_cases M:k<=x;right;left;refine⟨Oo,M,?_⟩;simp;omega;by_cases I:j=0;right;right;left;refine⟨Oo,Oo,I,?_⟩;simp[I];omega;by_cases O:y<x;right;right;right;right;refine⟨Oo,Oo,Oo,O,?_⟩;simp;omega;right;right;right;left;refine⟨Oo,Oo,Oo,Oo,?_⟩;simp;omega
theorem Jw{k:Int}(I:k<=6)(l:LI):zx k l=(qV l&&zf k l):=by
 cases hs:qV l
 ·rw[Bool.false_and];refine Bool.eq_false_iff.2 λh=>?_;unfold zx at h;rw[aT]at h;have:qV l=true:=js λi hi=>by
   have:=h i (by simpa using hi);unfold xj at this;unfold xD;simp only[Bool.and_eq_true,Bool.or_eq_true,decide_eq_true_eq]at this ⊢;omega
  rw[this]at hs;cases hs
 rw[Bool.true_and];cases hl:zf k l
 refine Bool.eq_false_iff.2 λh=>?_;unfold zf at hl;rw[Bool.or_eq_false_iff,decide_eq_false_iff_not,decide_eq_false_iff_not]at hl;unfold zx at h;rw[aT]at h;have:=h (l.length-1) Sy;unfold xj at this;simp only[Bool.and_eq_true,decide_eq_true_eq]at this;exact hl.2 this.1.2;refine YF λi hi=>?_;have K:=uA hs hi;have M:=jA hs hl (xz hi);unfold xj;simp only[Bool.and_eq_true,Bool.or_eq_true,decide_eq_true_eq];omega
theorem kJ(w:World)(k:Int)(a5:0<=k)(a6:k<=6)(v:Value)(l:LI)(h:IS w v l)(hl:l.length<=1099511627776):
 Cl 84 #[v,ai k] w λe w'=>e=.returned (.bool (zx k l))/\w'=w:=by
 obtain⟨a,cap,rfl,hc⟩:=h;obtain⟨n,hn⟩:=Ex l.length;obtain⟨res,K⟩:=Ex (zx k l);rw[<-K];have HR:=ay K;rw[<-hn]at hc hl ⊢;have HC:=ay hc;have HN:=ay hn;clear hc hn K;go_enter Tryz.func84,Tryz.ntmps84;go_wp2;go_loop [9] (λt=>∃j:Nat,j<=n/\t=ai j/\Hh (∀i,i<j->xj k l i=true)) (λt=>n-(intOf t).toNat);exact⟨0,nZ _,rfl,ay (λi hi=>Oo)⟩;obtain⟨j,hj,rfl,O⟩:=hrel;by_cases a3:j<n
 ·have i1:(j:Int)<(n:Int):=Oo;rcases HC.o with h0|⟨b,o,rfl,I⟩;omega;have c1:w.cell? (az b (o+j))=some (ai (l.getD j 0)):=I j a3;have a4:=qAY k l j;have fin:xj k l j=false->Hh (res=false):=λe=>HR.o.trans (qAX (by rw[<-HN.o];exact a3) e);have nxt:xj k l j=true->Hh (∀i,i<j+1->xj k l i=true):=λe i hi=>by
   by_cases e2:i=j;rw[e2];exact e;exact O.o i Oo
  have c2:0<j->w.cell? (az b (o+(j-1)))=some (ai (l.getD (j-1) 0)):=λe=>I (j-1) Oo;clear I O;generalize l.getD j 0=x at *;generalize l.getD (j-1) 0=y at *;rcases a4 with ⟨h1,V⟩|⟨h1,V,U⟩|⟨h1,V,U,h4⟩|⟨h1,V,U,h4,h5⟩|⟨h1,V,U,h4,h5⟩
  ·have M:=fin V;clear c2 fin nxt V;go_wp2_with (first|(go_at_call 87;refine(yg _ _ _ _ Oo).mono ?_;rintro e w' ⟨rfl,rfl⟩));go_ret;exact⟨qK (by rw[M.o]),rfl⟩
  ·have M:=fin U;have d1:decide (x<0)=false:=Sy;clear c2 fin nxt U;go_wp2_with (first|(go_at_call 87;refine(yh _ _ _ _ Oo Oo).mono ?_;rintro e w' ⟨rfl,rfl⟩));go_ret;exact⟨qK (by rw[M.o]),rfl⟩
  ·have M:=nxt h4;have d1:decide (x<0)=false:=Sy;have d2:decide (k<=x)=false:=Sy;subst U;have a7:w.cell? (az b o)=some (ai x):=by simpa using c1
   clear c2 fin nxt h4;go_wp2_with (first|(go_at_call 87;refine(zN _ _ _ _ Oo Oo).mono ?_;rintro e w' ⟨rfl,rfl⟩));go_round;exact⟨0+1,Oo,Gg,M⟩;exact Im
  ·have M:=fin h5;have d1:decide (x<0)=false:=Sy;have d2:decide (k<=x)=false:=Sy;have c3:=c2 U;have i3:(0:Int)<(j:Int):=Oo;have i4:((j:Int)-1).toNat=j-1:=Oo;clear c2 fin nxt h5;go_wp2_with (first|(go_at_call 87;refine(zN _ _ _ _ Oo Oo).mono ?_;rintro e w' ⟨rfl,rfl⟩));go_ret;exact⟨qK (by rw[M.o]),rfl⟩
  have M:=nxt h5;have d1:decide (x<0)=false:=Sy;have d2:decide (k<=x)=false:=Sy;have d3:decide (x<=y)=false:=Sy;have c3:=c2 U;have i3:(0:Int)<(j:Int):=Oo;have i4:((j:Int)-1).toNat=j-1:=Oo;clear c2 fin nxt h5;go_wp2_with (first|(go_at_call 87;refine(zN _ _ _ _ Oo Oo).mono ?_;rintro e w' ⟨rfl,rfl⟩));go_round;exact⟨j+1,Oo,Gg,M⟩;exact Im
 obtain rfl:j=n:=Oo;have M:Hh (res=true):=HR.o.trans (YF (λi hi=>O.o i (by rw[HN.o];exact hi)));have i1:¬((j:Int)<(j:Int)):=Oo;clear O;go_wp2;go_ret;exact⟨qK (by rw[M.o]),rfl⟩
theorem kK(w:World)(v v2:Value)(l K:LI)(h:IS w v l)(hl:l.length<=1099511627776)(h2:IS w v2 K)(V:K.length<=1099511627776):
 Cl 89 #[v,v2] w λe w'=>e=.returned (.bool (yE l K))/\w'=w:=by
 obtain⟨a,cap,rfl,hc⟩:=h;have H2:=ay h2;obtain⟨a2,a4,rfl,-⟩:=h2;obtain⟨res,I⟩:=Ex (yE l K);rw[<-I];have HF:Hh (∀j,j<l.length->decide (l.getD j 0∈K)=false->res=false):=ay λj hj e=>by
  rw[I];unfold yE;exact xH (λx=>decide (x∈K)) 0 l j hj e
 have HT:Hh ((∀j,j<l.length->decide (l.getD j 0∈K)=true)->res=true):=ay λh1=>by
  rw[I];unfold yE;exact uC (λx=>decide (x∈K)) 0 l h1
 obtain⟨n,hn⟩:=Ex l.length;rw[<-hn]at hc hl HF HT ⊢;have HC:=ay hc;clear hc hn I;go_enter Tryz.func89,Tryz.ntmps89;go_wp2_with fail;go_loop [9] (λt=>∃j:Nat,j<=n/\t=ai j/\Hh (∀i,i<j->decide (l.getD i 0∈K)=true)) (λt=>n-(intOf t).toNat);exact⟨0,nZ _,rfl,ay (λi hi=>Oo)⟩;obtain⟨j,hj,rfl,O⟩:=hrel;by_cases U:j<n
 ·have i1:(j:Int)<(n:Int):=Oo;rcases HC.o with h0|⟨b,o,rfl,M⟩;omega;have c1:=M j U;have HK:=ay (zm w _ K (l.getD j 0) H2.o V);have fin:=HF.o j U;have nxt:decide (l.getD j 0∈K)=true->Hh (∀i,i<j+1->decide (l.getD i 0∈K)=true):=λe i hi=>by
   by_cases e2:i=j;rw[e2];exact e;exact O.o i Oo
  clear M O;generalize decide (l.getD j 0∈K)=y at *;generalize l.getD j 0=x at *;cases y
  ·obtain rfl:=fin rfl;clear nxt;go_wp2_with fail;refine HK.o.mono ?_;rintro e w1 ⟨rfl,a3⟩;subst w1;go_wp2_with fail;go_ret;exact⟨rfl,rfl⟩
  have hf:=nxt rfl;clear fin nxt;go_wp2_with fail;refine HK.o.mono ?_;rintro e w1 ⟨rfl,a3⟩;subst w1;go_wp2_with fail;go_round;exact⟨j+1,Oo,Gg,hf⟩;exact Im
 obtain rfl:j=n:=Oo;obtain rfl:=HT.o O.o;have i1:¬((j:Int)<(j:Int)):=Oo;clear O;go_wp2_with fail;go_ret;exact⟨rfl,rfl⟩
theorem qAZ{p:Int->Bool}(I:k<l.length):(l.take (k+1)).filter p=if p (l.getD k 0) then (l.take k).filter p++[l.getD k 0] else (l.take k).filter p:=by
 rw[tA,gE I,List.filter_append];have e:l.getD k 0=l[k]:=by rw[gD,gE I];rfl
 rw[e];simp only[Option.toList_some];by_cases h:p l[k]=true;rw[if_pos h,List.filter_cons_of_pos h];rfl;rw[if_neg h,List.filter_cons_of_neg h];simp
theorem Y6(w:World)(v v2:Value)(l l2:LI)(h:IS w v l)(hl:l.length<=1099511627776)(h2:IS w v2 l2)(a7:l2.length<=1099511627776):
 Cl 44 #[v,v2] w λe w'=>∃u,e=.returned u/\w'.ownsRow w.1.size 3 1 u (qP l2 l).length ((qP l2 l).map ai)/\Bl w w':=by
 obtain⟨i0,hi,a8,a9,b1⟩:=info_parts Tryz.infoInt;obtain⟨a,cap,rfl,hc⟩:=h;have H2:=ay h2;obtain⟨a2,c7,rfl,-⟩:=h2;obtain⟨M,O⟩:=Ex (λk=>(l.take k).filter λx=>decide (x∈l2):Nat->LI);have HS:Hh (∀k,k<l.length->M (k+1)=if decide (l.getD k 0∈l2) then M k++[l.getD k 0] else M k):=ay λk hk=>by rw[O];exact qAZ hk
 have H0:Hh (M 0=[]):=ay (by rw[O];rfl);have HE:Hh (M l.length=qP l2 l):=ay (by rw[O];simp[qP]);have b7:Hh (∀k,(M k).length<=k):=ay λk=>by
  rw[O];exact bM (List.length_filter_le _ _) Sy
 rw[<-HE.o];obtain⟨n,hn⟩:=Ex l.length;rw[<-hn]at hc hl HS ⊢;have HC:=ay hc;clear hc hn O HE;go_enter Tryz.func44,Tryz.ntmps44;go_wp2;have b0:Bl w (w.alloc (.cells #[] 3)):=(bJ _ _).alloc (nR _) _;have a5:=ay b0;clear b0;go_loopw [5,11] (λv t wr=>∃k:Nat,k<=n/\t=ai k/\wr.ownsRow w.1.size 3 1 v (M k).length ((M k).map ai)/\Bl w wr) (λ_ t _=>n-(intOf t).toNat);exact⟨0,nZ _,rfl,by rw[H0.o];exact oM w #[] 0 (nR _) Dd rfl,a5.o⟩;clear a5;obtain⟨k,hk,rfl,I,K⟩:=hrel;have c8:=b7.o k;have b8:=K.size;by_cases a6:k<n
 ·have i1:(k:Int)<(n:Int):=Oo;rcases HC.o with h0|⟨b,o,rfl,U⟩;omega;have c1:=qJ K (U k a6);have HK:=ay (zm wr _ l2 (l.getD k 0) (H2.o.below K) a7);have e1:=HS.o k a6;clear U;generalize decide (l.getD k 0∈l2)=y at *;generalize l.getD k 0=x at *;cases y
  ·rw[if_neg Dd]at e1;have E1:=ay e1;clear e1;go_wp2_with fail;refine HK.o.mono ?_;rintro e w1 ⟨rfl,b9⟩;subst w1;go_wp2_with fail;go_roundw;exact⟨k+1,Oo,Gg,by rw[E1.o];exact I,K⟩;exact Im
  rw[if_pos rfl]at e1;have E1:=ay e1;clear e1;go_wp2_with fail;refine HK.o.mono ?_;rintro e w1 ⟨rfl,b9⟩;subst w1;go_wp2_with (first
   |(at_builtin;refine wpList_append_own _ rfl _ _ 24 rfl w.1.size 3 i0 (ai 0) 1 8 Tryz.underlying24 hi a8 a9 b1 rfl Dd _ _ _ rfl (I.alloc _) (az wr.1.size 0) 1 1 [ai x] rfl rfl ?c1 ?c2 ?c3 ?c4 ?c5 ?_)|fail)
  case c1=>
   intro j u hj;match j,hj with
   |0,hj=>simp at hj;subst hj;simp[Addr.add]
  case c2=>intro u hu;simp at hu;subst hu;rfl
  case c3=>unfold maxLen;omega
  case c4=>omega
  case c5=>simp;omega
  intro v' w1 V a3 _;have hb:=kq b8 I K a3;have a4:w1.ownsRow w.1.size 3 1 v' (M (k+1)).length ((M (k+1)).map ai):=by
   rw[E1.o];simpa using V
  clear V a3 I;go_wp2;go_roundw;exact⟨k+1,Oo,Gg,a4,hb⟩;exact Im
 obtain rfl:k=n:=Oo;have i1:¬((k:Int)<(k:Int)):=Oo;go_wp2;go_ret;exact⟨_,rfl,I,K⟩
theorem qEM{x:Int}(I:j<es.length):zZ (es.take (j+1)) x=(zZ (es.take j) x||decide (x∈es.getD j [])):=by
 unfold zZ;rw[tA,gE I,List.any_append,gD,gE I];simp
theorem qFc{k:Int}:zg k es=(decide (0<=k)&&decide (k<=6)&&decide (es.length<=7)&&es.all (zx k)&&(List.range k.toNat).all λv=>zZ es (v:Int)):=by
 unfold zg zX;by_cases I:k<=6
 case neg=>rw[decide_eq_false I];simp
 have:es.all (zx k)=(es.all qV&&es.all (zf k)):=by
  rw[show zx k=λl=>qV l&&zf k l from funext λl=>Jw I l];induction es with
  |nil=>rfl
  |cons e es ih=>
   simp only[List.all_cons,ih];cases qV e <;> cases zf k e <;> simp
 rw[this];cases decide (0<=k) <;> cases decide (k<=6) <;> cases decide (es.length<=7) <;> cases es.all qV <;> cases es.all (zf k) <;> rfl
theorem YG(w:World)(ve:Value)(k:Int)(es:LL)(h:ISS w ve es)(hl:qT es):
 Cl 86 #[ai k,ve] w λe w'=>e=.returned (.bool (zg k es))/\w'=w:=by
 obtain⟨a,cap,rfl,hc⟩:=h;obtain⟨c8,a6⟩:=hl;obtain⟨res,M⟩:=Ex (zg k es);rw[<-M];rw[qFc]at M;have U:=ay M;have HC:=ay hc;have HL:=ay a6;clear hc a6 M;by_cases V:0<=k
 case neg=>
  have hf:res=false:=by rw[U.o,decide_eq_false V];simp
  subst hf;generalize es.length=n at *;go_enter Tryz.func86,Tryz.ntmps86;go_wp2_with fail;refine(yg _ _ _ _ Oo).mono ?_;rintro e w1 ⟨rfl,O⟩;subst w1;go_wp2_with fail;go_ret;exact⟨rfl,rfl⟩
 by_cases a3:k<=6
 case neg=>
  have hf:res=false:=by rw[U.o,decide_eq_false a3];simp
  subst hf;generalize es.length=n at *;go_enter Tryz.func86,Tryz.ntmps86;go_wp2_with fail;refine(yh _ _ _ _ Oo Oo).mono ?_;rintro e w1 ⟨rfl,O⟩;subst w1;go_wp2_with fail;go_ret;exact⟨rfl,rfl⟩
 by_cases h7:es.length<=7
 case neg=>
  have hf:res=false:=by rw[U.o,decide_eq_false h7];simp
  subst hf;have i1:(7:Int)<(es.length:Int):=Oo;generalize es.length=n at *;go_enter Tryz.func86,Tryz.ntmps86;go_wp2_with fail;refine(zN _ _ _ _ Oo Oo).mono ?_;rintro e w1 ⟨rfl,O⟩;subst w1;go_wp2_with fail;go_ret;exact⟨rfl,rfl⟩
 rw[decide_eq_true V,decide_eq_true a3,decide_eq_true h7]at U;simp only[Bool.true_and]at U;have a5:Hh (∀j,j<es.length->zx k (es.getD j [])=false->res=false):=ay λj hj e=>by
  rw[U.o,xH (zx k) [] es j hj e];simp
 have a7:Hh (∀v,v<k.toNat->zZ es (v:Int)=false->res=false):=ay λv hv e=>by
  rw[U.o,qf hv e];simp
 have HT:Hh ((∀j,j<es.length->zx k (es.getD j [])=true)->(∀v,v<k.toNat->zZ es (v:Int)=true)->res=true):=ay λh1 h2=>by
  rw[U.o,uC (zx k) [] es h1,qh h2];rfl
 have HA:Hh (∀x j,j<es.length->zZ (es.take (j+1)) x=(zZ (es.take j) x||decide (x∈es.getD j []))):=ay λx j hj=>qEM hj;have c9:Hh (∀x,zZ (es.take 0) x=false):=ay λx=>rfl;have a8:Hh (∀x,zZ (es.take es.length) x=zZ es x):=ay λx=>Ss;clear U;have d7:¬((7:Int)<(es.length:Int)):=Oo;obtain⟨n,hn⟩:=Ex es.length;rw[<-hn]at a5 HT c8 HC HA a8 d7 ⊢;clear hn h7;go_enter Tryz.func86,Tryz.ntmps86;go_wp2_with fail;refine(zN _ _ _ _ Oo Oo).mono ?_;rintro e w1 ⟨rfl,O⟩;subst w1;go_wp2_with fail;go_loop [21] (λt=>∃j:Nat,j<=n/\t=ai j/\Hh (∀i,i<j->zx k (es.getD i [])=true)) (λt=>n-(intOf t).toNat);exact⟨0,nZ _,rfl,ay (λi hi=>Oo)⟩;obtain⟨j,hj,rfl,K⟩:=hrel;by_cases a9:j<n
 ·have i1:(j:Int)<(n:Int):=Oo;rcases HC.o with h0|⟨b,o,rfl,I⟩;omega;obtain⟨u,c1,hu⟩:=I j a9;have HK:=ay (kJ w k V a3 u (es.getD j []) hu (HL.o j));obtain⟨a1,b0,rfl,-⟩:=hu;have fin:=a5.o j a9;have nxt:zx k (es.getD j [])=true->Hh (∀i,i<j+1->zx k (es.getD i [])=true):=λe i hi=>by
   by_cases e2:i=j;rw[e2];exact e;exact K.o i Oo
  clear I K;generalize (es.getD j []).length=m at *;generalize zx k (es.getD j [])=y at *;cases y
  ·obtain rfl:=fin rfl;clear nxt;go_wp2_with fail;refine HK.o.mono ?_;rintro e w1 ⟨rfl,O⟩;subst w1;go_wp2_with fail;go_ret;exact⟨rfl,rfl⟩
  have hf:=nxt rfl;clear fin nxt;go_wp2_with fail;refine HK.o.mono ?_;rintro e w1 ⟨rfl,O⟩;subst w1;go_wp2_with fail;go_round;exact⟨j+1,Oo,Gg,hf⟩;exact Im
 obtain rfl:j=n:=Oo;have b1:Hh ((∀v,v<k.toNat->zZ es (v:Int)=true)->res=true):=ay (HT.o K.o);have i1:¬((j:Int)<(j:Int)):=Oo;clear K HT a5;obtain⟨q,hq⟩:=Ex (k.toNat:Nat);obtain rfl:k=(q:Int):=Oo;rw[<-hq]at b1 a7;clear hq V;have d2:q<=6:=Oo;clear a3;go_wp2_with fail;go_loop [7] (λt=>∃v:Nat,v<=q/\t=ai v/\Hh (∀i:Nat,i<v->zZ es (i:Int)=true)) (λt=>q-(intOf t).toNat);exact⟨0,nZ _,rfl,ay (λi hi=>Oo)⟩;obtain⟨v,hv,rfl,K⟩:=hrel;by_cases d0:v<q
 ·have i2:(v:Int)<(q:Int):=Oo;have fin:=a7.o v d0;have nxt:zZ es (v:Int)=true->Hh (∀i:Nat,i<v+1->zZ es (i:Int)=true):=λe i hi=>by
   by_cases e2:i=v;rw[e2];exact e;exact K.o i Oo
  have d1:=ay (HA.o (v:Int));have b7:=ay (c9.o (v:Int));have a4:=a8.o (v:Int);rw[<-a4]at fin nxt;have b8:=ay fin;have b9:=ay nxt;clear K fin nxt a4;go_wp2_with fail;go_loop [8,37] (λs t=>∃i:Nat,i<=j/\t=ai i/\s=.bool (zZ (es.take i) (v:Int))) (λ_ t=>j-(intOf t).toNat);exact⟨0,nZ _,rfl,by rw[b7.o]⟩;obtain⟨i,hi,rfl,rfl⟩:=hrel;by_cases c7:i<j
  ·have i3:(i:Int)<(j:Int):=Oo;rcases HC.o with h0|⟨b,o,rfl,I⟩;omega;obtain⟨u,c1,hu⟩:=I i c7;have HK:=ay (zm w u (es.getD i []) (v:Int) hu (HL.o i));obtain⟨a1,b0,rfl,-⟩:=hu;have hs:=d1.o i c7;clear I;generalize (es.getD i []).length=m at *;generalize decide ((v:Int)∈es.getD i [])=f at *;generalize zZ (es.take i) (v:Int)=s at *;cases s
   ·go_wp2_with fail;refine HK.o.mono ?_;rintro e w1 ⟨rfl,O⟩;subst w1;go_wp2_with fail;go_round;exact⟨i+1,Oo,Gg,by rw[hs];rfl⟩;exact Im
   go_wp2_with fail;go_round;exact⟨i+1,Oo,Gg,by rw[hs];rfl⟩;exact Im
  obtain rfl:i=j:=Oo;have i3:¬((i:Int)<(i:Int)):=Oo;have fin:=b8.o;have nxt:=b9.o;clear b8 b9;generalize zZ (es.take i) (v:Int)=s at *;cases s
  ·obtain rfl:=fin rfl;clear nxt;go_wp2_with fail;go_ret;exact⟨rfl,rfl⟩
  have hf:=nxt rfl;clear fin nxt;go_wp2_with fail;go_round;exact⟨v+1,Oo,Gg,hf⟩;exact Im
 obtain rfl:v=q:=Oo;obtain rfl:=b1.o K.o;have i2:¬((v:Int)<(v:Int)):=Oo;clear K;go_wp2_with fail;go_ret;exact⟨rfl,rfl⟩
theorem XQ(w:World)(vb vp vh vw:Value)(x n d:Int)(bs:LL)(ps:LI)(hb:ISS w vb bs)(hl:qT bs)(b9:bs.length<=12)(hp:IS w vp ps)(d5:ku ps bs.length):
 Cl 88 #[.agg #[vb,vp,vh,vw,ai n,ai d],ai x] w λe w'=>e=.returned (.bool (decide (zA x bs ps bs.length=1)))/\Bl w w':=by
 have a7:Hh (Bl w (w.alloc (.cells #[vb,vp,vh,vw,ai n,ai d] 38))):=ay (aK);have c0:(w.alloc (.cells #[vb,vp,vh,vw,ai n,ai d] 38)).cell? (az w.1.size 0)=some vb:=by rw[bE _ _ _ _ rfl];rfl
 have c1:(w.alloc (.cells #[vb,vp,vh,vw,ai n,ai d] 38)).cell? (az w.1.size 1)=some vp:=by rw[bE _ _ _ _ rfl];rfl
 obtain⟨W,hW⟩:=Ex (w.alloc (.cells #[vb,vp,vh,vw,ai n,ai d] 38));rw[<-hW]at a7 c0 c1;obtain⟨c7,a8⟩:=d5;have d6:=hp.below a7.o;have d7:=hb.below a7.o;clear hb hp;obtain⟨a,cap,rfl,hc⟩:=d7;obtain⟨a2,e8,rfl,b7⟩:=d6;rw[c7]at b7 c1;obtain⟨d8,c8⟩:=hl;have HC:=ay hc;have c9:=ay b7;have HL:=ay c8;have d0:=ay a8;have HT:Hh (∀i,zA x bs ps (i+1)=zA x bs ps i+if xa x bs ps i then 1 else 0):=ay λi=>rfl;have d1:=ay (ks x bs ps);have d9:Hh (∀i,xa x bs ps i=(decide (x∈bs.getD i [])&&!(decide (0<=ps.getD i 0)&&decide (x∈bs.getD (ps.getD i 0).toNat [])))):=ay λi=>rfl;have e0:Hh (zA x bs ps 0=0):=ay rfl;obtain⟨m,hm⟩:=Ex bs.length;have b1:ps.length=m:=Oo;rw[<-hm]at HC c9 d0 d8 b9 c0 c1 hW ⊢;rw[b1]at hW ⊢;clear hc b7 c8 a8 c7 hm b1;generalize zA x bs ps=TN at *;go_enter Tryz.func88,Tryz.ntmps88;go_upto_region 1 with fail;rw[<-hW];clear hW;go_wp2_with fail;go_loopw [5,11] (λs t wr=>∃j:Nat,j<=m/\t=ai j/\s=ai (TN j)/\Bl W wr) (λ_ t _=>m-(intOf t).toNat);exact⟨0,nZ _,rfl,by rw[e0.o];rfl,bJ _ _⟩;obtain⟨j,hj,rfl,rfl,K⟩:=hrel;by_cases b8:j<m
 ·have i1:(j:Int)<(m:Int):=Oo;rcases HC.o with h0|⟨b,o,rfl,V⟩;omega;rcases c9.o with h0|⟨b2,o2,rfl,a5⟩;omega;have e4:=ay V;obtain⟨u,d2,hu⟩:=V j b8;have e1:=qJ K d2;have e2:=qJ K (a5 j b8);have y0:=qJ K c0;have y1:=qJ K c1;have U:Hh (∀W',Bl wr W'->_):=ay λW' hb=>zm W' u (bs.getD j []) x (hu.below (bt K hb)) (HL.o j);obtain⟨a3,I,rfl,-⟩:=hu;have a8:=d0.o j b8;have O:=d9.o j;have a9:=HT.o j;have e5:=d1.o j;have M:Bl wr wr:=bJ _ _;clear V a5 d2;generalize (bs.getD j []).length=lj at *;generalize decide (x∈bs.getD j [])=f1 at *;generalize ps.getD j 0=y at *;generalize xa x bs ps j=tp at *;cases f1
  ·rw[Bool.false_and]at O;subst O;go_wp2_with fail;go_quiet (first|(go_at_call_of 62 (Value.slice a3 lj I);exact Calls.quiet_of_same (U.o _ (below_drewN M _)))|(go_at_call_of 62 (Value.slice a3 lj I);exact Calls.quiet_of_same (U.o _ M)))
   go_wp2_with fail;go_roundw;exact⟨j+1,Oo,Gg,by rw[a9];simp,below_drewN K _⟩;exact Im
  rw[Bool.true_and]at O;rcases a8 with rfl|⟨e6,e9⟩
  ·rw[show(decide ((0:Int)<=-1))=false by decide,Bool.false_and,Bool.not_false]at O;subst O;go_wp2_with fail;go_quiet (first|(go_at_call_of 62 (Value.slice a3 lj I);exact Calls.quiet_of_same (U.o _ (below_drewN M _)))|(go_at_call_of 62 (Value.slice a3 lj I);exact Calls.quiet_of_same (U.o _ M)))
   go_wp2_with fail;go_roundw;exact⟨j+1,Oo,Gg,by rw[a9];simp,below_drewN K _⟩;exact Im
  obtain⟨z,rfl⟩:∃z:Nat,y=(z:Int):=⟨y.toNat,Oo⟩;have e7:z<m:=Oo;obtain⟨u2,d3,d4⟩:=e4.o z e7;have e3:=qJ K d3;rw[show((z:Int)).toNat=z by omega]at O;have b0:Hh (∀W',Bl wr W'->_):=ay λW' hb=>zm W' u2 (bs.getD z []) x (d4.below (bt K hb)) (HL.o z);obtain⟨a4,a6,rfl,-⟩:=d4;clear d3;generalize (bs.getD z []).length=lz at *;generalize decide (x∈bs.getD z [])=f2 at *;rw[decide_eq_true e6,Bool.true_and]at O;have hd:decide ((z:Int)<0)=false:=Ss;have f7:(z:Int)<(m:Int):=Oo;cases f2
  ·subst O;go_wp2_with fail;go_quiet (first|(go_at_call_of 62 (Value.slice a3 lj I);exact Calls.quiet_of_same (U.o _ (below_drewN M _)))|(go_at_call_of 62 (Value.slice a3 lj I);exact Calls.quiet_of_same (U.o _ M))|(go_at_call_of 62 (Value.slice a4 lz a6);exact Calls.quiet_of_same (b0.o _ (below_drewN M _)))|(go_at_call_of 62 (Value.slice a4 lz a6);exact Calls.quiet_of_same (b0.o _ M)))
   go_wp2_with fail;go_roundw;exact⟨j+1,Oo,Gg,by rw[a9];simp,below_drewN K _⟩;exact Im
  subst O;go_wp2_with fail;go_quiet (first|(go_at_call_of 62 (Value.slice a3 lj I);exact Calls.quiet_of_same (U.o _ (below_drewN M _)))|(go_at_call_of 62 (Value.slice a3 lj I);exact Calls.quiet_of_same (U.o _ M))|(go_at_call_of 62 (Value.slice a4 lz a6);exact Calls.quiet_of_same (b0.o _ (below_drewN M _)))|(go_at_call_of 62 (Value.slice a4 lz a6);exact Calls.quiet_of_same (b0.o _ M)))
  go_wp2_with fail;go_roundw;exact⟨j+1,Oo,Gg,by rw[a9];simp,below_drewN K _⟩;exact Im
 obtain rfl:j=m:=Oo;have i1:¬((j:Int)<(j:Int)):=Oo;have e5:=d1.o j;go_wp2_with fail;go_ret;refine⟨qK ?_,bt a7.o K⟩;by_cases ht:TN j=1;rw[ht];rfl;rw[decide_eq_false ht];simp;omega
theorem qG3{e:TypeId}(h:w.ownsRow B e s v n xs):∃a cap,v=.slice a n cap:=by
 rcases h.2 with ⟨rfl,I⟩|⟨g,cap,cur,rfl,_⟩;exact⟨none,0,by rw[I]⟩;exact⟨_,cap,rfl⟩
structure RL(W:World)(B:Nat)(v:Value)(vs:List Value)(ls:LL):Prop where
 own:W.ownsRow B 24 1 v ls.length vs
 len:vs.length=ls.length
 each:∀i,i<ls.length->W.ownsRow B 3 1 (vs.getD i undef) (ls.getD i []).length ((ls.getD i []).map ai)
section
variable {W W' w3:World} {B:Nat} {v v' u:Value} {vs:List Value} {ls:LL} {l:LI} {o:Obj}
theorem RL.below(h:RL W B v vs ls)(hb:Bl W W'):RL W' B v vs ls:=⟨qB h.own hb,h.len,λi hi=>qB (h.each i hi) hb⟩
theorem RL.nil(W:World):RL (W.alloc (.cells #[] 24)) W.1.size (.slice (some (az W.1.size 0)) 0 0) [] []:=⟨oM W #[] 0 (nR _) Dd rfl,rfl,λi hi=>by simp at hi⟩
theorem RL.base(h:RL W B v vs ls)(hB:B'<=B):RL W B' v vs ls:=⟨qF h.own hB,h.len,λi hi=>qF (h.each i hi) hB⟩
theorem RL.step(h:RL W B v vs ls)(O:W.ownsRow B 3 1 u l.length (l.map ai))(I:w3.ownsRow B 24 1 v' (ls.length+1) (vs++[u]))(U:(W.alloc o).grownBy w3 v.ownBlock):RL w3 B v' (vs++[u]) (ls++[l]):=by
 have hint:∀{x:Value} {k:Nat} {xs:List Value},W.ownsRow B 3 1 x k xs->w3.ownsRow B 3 1 x k xs:=λM=>
  qC M (λg K=>zk U ((M.lt g K).2) (λe=>own_ne h.own (qN M K) Dd e))
 refine⟨by rw[lA];exact I,by rw[lA,lA,h.len];rfl,λi hi=>?_⟩;rw[lA,lS]at hi;by_cases e:i<ls.length;have:=hint (h.each i e);rw[gD,aL (by rw[h.len];exact e),gD (l:=ls++[l]),aL e,<-gD,<-gD];exact this;have V:(vs++[u]).getD i undef=u:=by rw[gD,bQ (by rw[h.len];omega),show i-vs.length=0 by rw[h.len];omega];rfl
 have e2:(ls++[l]).getD i []=l:=by rw[gD,bQ Oo,show i-ls.length=0 by omega];rfl
 rw[V,e2];exact hint O
theorem RL.other(h:RL W B v vs ls)(hv:W.ownsRow B 183 3 u n xs)(K:(W.alloc o).grownBy w3 u.ownBlock):RL w3 B v vs ls:=
 ⟨qC h.own (λg I=>zk K ((h.own.lt g I).2) (λe=>own_ne hv (qN h.own I) Dd e)),h.len,λi hi=>
  qC (h.each i hi) (λg I=>zk K (((h.each i hi).lt g I).2) (λe=>own_ne hv (qN (h.each i hi) I) Dd e))⟩
theorem DL.far{ps:List (Value×Dem)}(h:DL W B u ps)(hv:W.ownsRow B 24 1 v n xs)(K:(W.alloc o).grownBy w3 v.ownBlock):DL w3 B u ps:=
 ⟨qC h.own (λg I=>zk K ((h.own.lt g I).2) (λe=>own_ne hv (qN h.own I) Dd e)),λq hq=>
  qC (h.each q hq) (λg I=>zk K (((h.each q hq).lt g I).2) (λe=>own_ne hv (qN (h.each q hq) I) Dd e))⟩
theorem RL.get(h:RL W B v vs ls){i:Nat}(hi:i<ls.length):∃g cap,v=.slice (some (az g 0)) ls.length cap/\W.cell? (az g i)=some (vs.getD i undef)/\IS W (vs.getD i undef) (ls.getD i []):=by
 rcases h.own.2 with ⟨-,O⟩|⟨g,cap,cur,rfl,I,K,U,-,-,M⟩;omega;refine⟨g,cap,rfl,?_,qS (h.each i hi)⟩;have hlen:=h.len;rw[cell_of_row _ _ _ _ _ _ K,gD,gE Oo,Option.getD_some,<-gE (by omega:i<vs.length),<-M,List.getElem?_take_of_lt Oo,Array.getElem?_toList]
structure ZR(W:World)(g:Nat):Prop where
 blk:W.1[g]?=some (.cells #[ai 0,ai 0] 36 (0,0))
variable {g:Nat}
theorem ZR.typ(h:ZR W g):∃cur,W.1[g]?=some (.cells cur 36 (0,0)):=⟨_,h.blk⟩
theorem ZR.move(h:ZR W g)(e:W'.1[g]?=W.1[g]?):ZR W' g:=⟨e.trans h.blk⟩
theorem ZR.lt(h:ZR W g):g<W.1.size:=xX h.typ
theorem ZR.below(h:ZR W g)(hb:Bl W W'):ZR W' g:=h.move (hb.block g h.lt)
theorem ZR.alloc(h:ZR W g)(o:Obj):ZR (W.alloc o) g:=h.move (Below.heap_alloc _ _ _ h.lt)
theorem ZR.grow(h:ZR W g)(I:W.ownsRow B 183 3 v n xs)(K:(W.alloc o).grownBy w3 v.ownBlock):ZR w3 g:=h.move (zk K h.lt (own_ne I h.typ Dd))
theorem ZR.grow2(h:ZR W g)(I:W.ownsRow B 24 1 v n xs)(K:(W.alloc o).grownBy w3 v.ownBlock):ZR w3 g:=h.move (zk K h.lt (own_ne I h.typ Dd))
theorem ZR.two(h:ZR W g):Two W g 0 0:=by
 refine⟨?_,?_,?_,?_⟩;rw[cell_of_row _ _ _ _ _ _ h.blk];rfl;rw[cell_of_row _ _ _ _ _ _ h.blk];rfl;unfold World.frozen?;rw[h.blk];simp;unfold World.frozen?;rw[h.blk];simp
end
def zr(bag:LI)(es:LL)(k:Nat):LL:=((List.range k).filter (vQ bag es)).map λi=>qP bag (es.getD i [])
theorem qCE(h:vQ bag es k=true):zr bag es (k+1)=zr bag es k++[qP bag (es.getD k [])]:=by
 simp[zr,List.range_succ,List.filter_append,h]
theorem qAi(h:vQ bag es k=false):zr bag es (k+1)=zr bag es k:=by
 simp[zr,List.range_succ,List.filter_append,h]
theorem qDJ(bag:LI)(es:LL)(k:Nat):(zr bag es k).length<=k:=by
 unfold zr;rw[lM];exact bM (List.length_filter_le _ _) Ss
theorem qCF(bag:LI)(es:LL):zr bag es es.length=zo bag es:=rfl
def vX(bag:LI)(es:LL)(i j:Nat):Bool:=decide (0<(qP bag (es.getD i [])).length)&&(List.range j).all λj=>!kx bag es i j
theorem qCG(i j:Nat):vX bag es i (j+1)=(vX bag es i j&&!kx bag es i j):=by
 unfold vX;rw[List.range_succ,List.all_append];simp[Bool.and_assoc]
theorem Kq(bag e:LI):(qP bag e).length<=e.length:=List.length_filter_le _ _
end Go.Proofs.YtcnfapnfmnolbaaGreat
