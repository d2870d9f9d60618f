import Derived.Laws.AppendOwnNone
import Derived.Test.YtnpgdnaeghilhaaGreatEq13
set_option maxHeartbeats 40000000
set_option maxRecDepth 1000000
namespace Go.Proofs.YtnpgdnaeghilhaaGreat
open Go.Proofs.Tryz Go.RowKit
section
variable {bag l:LI}{es:LL}{xs:LV}{B B' b j k n s a g:Nat}{x y:NR}{v I va vc vb O V z v2 ve vp vh vw:Value}{W w w3 w2:World}{all:List Dem}{most:Bool}{best:Option (NR)}
def kB(n:Nat)(all:List Dem)(xs:NR)(k:Nat)(ch:List Dem)(best:Option (NR))(e:Ending)(w':World):Prop:=
 ∃v best',e=.returned v/\BestAt w' n all v best'/\((XD n xs best\/Compl n all xs k ch)->XD n xs best')
theorem qFa w n ps(K:1<=n)(O:n<=7)(hl:ps.length=n)(V:DP w I ps)(M:∀p∈ps,xG n p.2)(hk:¬Cov.Kern n ((ps.map Prod.snd).map Dem.dm)):
 aG 140 #[ai n,I] w (.tuple #[sn,.bool false]):=
 (ZP w I n K O hl V M).mono (by
  rintro e w' ⟨h|⟨v,x,rfl,h1,h2,h3,h4⟩,hb⟩;exact⟨h.1,hb⟩;exact absurd h4 hk)
theorem qEK w n ps(K:1<=n)(O:n<=7)(hl:ps.length=n)(V:DP w I ps)(M:∀p∈ps,xG n p.2)(hk:Cov.Kern n ((ps.map Prod.snd).map Dem.dm)):
 Cl 140 #[ai n,I] w λe w'=>∃v x,e=.returned (.tuple #[v,.bool true])/\IR w' v (prs n x)/\Parts n x/\Ub n (ps.map Prod.snd) x/\Bl w w':=
 (ZP w I n K O hl V M).mono (by
  rintro e w' ⟨h|⟨v,x,rfl,h1,h2,h3,h4⟩,hb⟩;exact absurd hk h.2;exact⟨v,x,rfl,h1,h2,h3,hb⟩)
theorem kd{xs ch}(I:ch.length=n)(ho:Ub n ch x)(h:Compl n all xs k ch):∀i,i<n->x i=xs i:=
 λi hi=>(ho _ (Vd h I).1 i hi).symm
theorem qBo{D:Dem}(h:∀i,i<n->x i=y i)(I:D.dm.meets n x):D.dm.meets n y:=by
 unfold Cov.Dm.meets at I |-;rw[<-Cov.at_congr D.dm h];exact I
theorem BestAt.form{b}(h:BestAt w n all v b):∃a lb cap,v=.slice a lb cap/\Hh ((b=none->lb=0)/\(b≠none->lb=n)):=by
 cases b with
 |none=>
  have⟨a,cap,e⟩:=h;exact⟨a,0,cap,e,ay ⟨λ_=>rfl,λh=>absurd rfl h⟩⟩
 |some b=>
  obtain⟨⟨a,cap,e,-⟩,-⟩:=h;rw[qi]at e;exact⟨a,n,cap,e,ay ⟨(λh=>by cases h),λ_=>rfl⟩⟩
theorem JL n I{xs}(d4:1<=n)(hn:n<=7)(e4:I.length<=100)(a7:∀p∈I,xG n p.2)(hS:Yd n most (I.map Prod.snd) xs)
 w (k:Nat)  V  (ha:DP w va I) (hc:DP w vc V) (a8:V.length=n) (a3:∀p∈V,xG n p.2) (hb:BestAt w n (I.map Prod.snd) vb best):
 Cl 99 #[ai n,va,ai k,vc,vb,.bool most] w λe w'=>kB n (I.map Prod.snd) xs k (V.map Prod.snd) best e w'/\Bl w w':=by
 obtain⟨all,K⟩:=Ex (I.map Prod.snd);rw[<-K]at hS hb |-;obtain⟨ch,a6⟩:=Ex (V.map Prod.snd);rw[<-a6];have O:ch.length=n:=by rw[a6,lM];exact a8
 obtain⟨ab,lb,cb,rfl,d5⟩:=hb.form;have a9:=ay hb;have HS:=ay hS;by_cases hk:Cov.Kern n (ch.map Dem.dm)
 .have KS:Hh (Cl 140 #[ai n,vc] w λe w'=>∃v x,e=.returned (.tuple #[v,.bool true])/\IR w' v (prs n x)/\Parts n x/\Ub n ch x/\Bl w w'):=ay (by rw[a6]at hk |-;exact qEK w n V d4 hn a8 hc a3 hk);obtain⟨⟨av,cv,rfl,_⟩,_⟩:=hc;obtain⟨⟨aa,ca,rfl,a4⟩,a5⟩:=ha;obtain⟨m,hm⟩:=Ex I.length;have HA:Hh (∀j,j<m->∃b o u d,aa=some (az b o)/\all.getD j vV=d/\d∈all/\xG n d/\IntsAt w u d.pl/\aC w b (o+j*3) u/\aC w b (o+j*3+1) (.bool d.up)/\aC w b (o+j*3+2) (ai d.bd)):=ay (λj hj=>by
   rcases a4 with h0|⟨b,o,e,c7⟩;omega;have c8:I.getD j pd0∈I:=yL Oo;obtain⟨h1,h2,h3⟩:=XP I j Oo;exact⟨b,o,(I.getD j _).1,(I.getD j _).2,e,by rw[K];exact QL I j,by rw[K];exact cC.2 ⟨_,c8,rfl⟩,a7 _ c8,a5 _ c8,c7 _ _ h1,c7 _ _ h2,c7 _ _ h3⟩)
  have e5:Hh (all.length=m):=ay (by rw[K,lM,hm]);rw[a8]at KS |-;rw[<-hm]at e4 |-;clear hk a4 a5 a7 a3 hb hS K a6 hm;go_enter func99,ntmps99;go_upto_region 3 with (go_at_call 140;apply KS.o.mono;rintro e w1 ⟨vx,x,rfl,hx,hp,ho,b1⟩);have HX:=ay hx;have HP:=ay hp;have HO:=ay ho;have e6:=ay b1;obtain⟨ax,cx,rfl,-⟩:=hx;rw[qi]at HX |-;clear hp ho b1 KS;go_wp2;go_loopw [33] (λt wr=>∃j:Nat,j<=m/\t=ai j/\Hh (Bl w1 wr/\∀i,i<j->(all.getD i vV).dm.meets n x)) (λt _=>m-(intOf t).toNat);exact⟨0,eC,rfl,ay ⟨eB,λi hi=>Oo⟩⟩;obtain⟨j,hj,rfl,hH⟩:=hrel;have HW:=ay (bt e6 hH.1);have d6:=ay hH.2;have c9:=ay hH.1;clear hH;by_cases e7:j<m
  .have i1:=aV e7;obtain⟨b,o,u,d,rfl,hd,d7,hdk,hu,e1,e2,e3⟩:=HA j e7;have c1:=(HW.o.cell (bL w _ e1)).trans e1;have c2:=(HW.o.cell (bL w _ e2)).trans e2;have c3:=(HW.o.cell (bL w _ e3)).trans e3;have KM:=ay (λW hW=>Jj W u n d x (HX.o.below (bt c9 hW)) ((hu.below HW).below hW) hdk HP);have HD:=ay (And.intro hd d7);obtain⟨au,cu,rfl,-⟩:=hu;obtain⟨q,hq⟩:=Ex d.pl.length;rw[<-hq]at c1 KM;have e8:-1<=d.bd/\d.bd<=1:=by rcases hdk.bd with h|h <;> omega
   clear hd d7 hdk e1 e2 e3 hq;cases hmt:Zi n d x
   .rw[hmt]at KM;have b7:∀o,Bl wr (wr.alloc o):=λo=>eB.alloc eA o;have b8:=ay b7;have d0:=ay hmt;clear hmt b7;go_wp2_with (go_at_call 141;apply (KM.o _ (b8.o _)).mono;rintro e w2 ⟨rfl,M⟩);go_ret;have d9:=bt HW (bt (b8 _) M);refine⟨⟨_,best,rfl,a9.o.below d9,λh=>h.elim id (λh=>?_)⟩,d9⟩;exfalso;have h2:=qAA.2 (qBo (λi hi=>((kd O HO h) i hi).symm) (HS.o.meets d HD.2));rw[d0.o]at h2;cases h2
   rw[hmt]at KM;have b7:∀o,Bl wr (wr.alloc o):=λo=>eB.alloc eA o;have b8:=ay b7;have d0:=ay hmt;clear hmt b7;go_wp2_with (go_at_call 141;apply (KM.o _ (b8.o _)).mono;rintro e w2 ⟨rfl,M⟩);go_roundw
   case rel=>exact⟨j+1,Oo,Gg,ay ⟨bt c9 (bt (b8 _) M),λi hi=>by
    by_cases e:i=j;rw[e,HD.o.1];exact qAA.1 d0;exact d6 i Oo⟩⟩
   case measure=>simp[intOf];omega
  obtain rfl:m=j:=Oo;have i1:=aY m;have d1:Hh (InP n all x):=ay (λD hD=>by
   obtain⟨r,hr,rfl⟩:=XC (d:=vV) hD;exact d6 r (by rw[<-e5.o];exact hr))
  have d2:=ay (HX.o.below c9);cases best with
  |none=>
   obtain rfl:lb=0:=d5.o.1 rfl;go_wp2;go_ret;refine⟨⟨_,some x,rfl,⟨d2,d1,HP⟩,λh=>h.elim (λh=>False.elim h) (λh=>kd O HO h)⟩,HW⟩
  |some bb=>
   obtain rfl:n=lb:=(d5.o.2 Ss).symm;have b9:=a9.o.below HW;have i2:¬((n:Int)=0):=Oo;have i3:((n:Int) == 0)=false:=Sy;have KB:=ay (Vl n most x hn d2 b9.1 HP b9.2.2);have e0:=ay b9;clear b9;cases hbf:QJ n most x bb
   .rw[hbf]at KB;have d3:=ay hbf;clear hbf;go_wp2_with (go_at_call 142;apply KB.o.mono;rintro e w2 ⟨rfl,M⟩);go_ret;refine⟨⟨_,some bb,rfl,e0.o.below M,λh=>h.elim id (λh=>?_)⟩,bt HW.o M⟩;exact qFS HS e0.2.1 d3 (kd O HO h)
   rw[hbf]at KB;have d3:=ay hbf;clear hbf;go_wp2_with (go_at_call 142;apply KB.o.mono;rintro e w2 ⟨rfl,M⟩);go_ret;refine⟨⟨_,some x,rfl,⟨d2.o.below M,d1.o,HP.o⟩,λh=>h.elim (λh=>?_) (λh=>kd O HO.o h)⟩,bt HW.o M⟩;exact qFR HS d1 d3 h
 have KS:=ay (by rw[a6]at hk;exact qFa w n V d4 hn a8 hc a3 hk);obtain⟨⟨av,cv,rfl,_⟩,_⟩:=hc;obtain⟨⟨aa,ca,rfl,_⟩,_⟩:=ha;rw[a8]at KS |-;have HK:=ay hk;clear hk a7 a3 hb hS K a6;go_enter func99,ntmps99;go_wp2_with (go_at_call 140;apply KS.o.mono;rintro e w1 ⟨rfl,b1⟩);go_ret;refine⟨⟨_,best,rfl,a9.o.below b1,λh=>h.elim id (λh=>?_)⟩,b1⟩;exact absurd (Vd h O).2 HK
theorem JM n I{xs}(hn:n<=7)(a3:I.length<=100)
 w k (hk:k<=I.length)  K  (ha:DP w O I) (hc:DP w V K) (a4:K.length<n) (hb:BestAt w n (I.map Prod.snd) vb best) (hst:I.length<k+n-K.length):
 Cl 99 #[ai n,O,ai k,V,vb,.bool most] w λe w'=>kB n (I.map Prod.snd) xs k (K.map Prod.snd) best e w'/\Bl w w':=by
 obtain⟨ab,lb,cb,rfl,a5⟩:=hb.form;change Hh _ at hb;have HC:Hh (¬Compl n (I.map Prod.snd) xs k (K.map Prod.snd)):=λh=>qEA h (by rw[lM,lM];exact hst) (by rw[lM];exact hk);obtain⟨⟨av,cv,rfl,_⟩,_⟩:=hc;obtain⟨⟨aa,ca,rfl,_⟩,_⟩:=ha;generalize hm:I.length=m,hq:K.length=q at *;have i1:¬((q:Int)=n):=Oo;have i2:((q:Int) == (n:Int))=false:=Sy;have i3:(m:Int)<k+(n:Int)-(q:Int):=Oo;clear hm hq;go_enter func99,ntmps99;go_wp2;go_ret;exact⟨⟨_,best,rfl,hb,λh=>h.elim id (λh=>absurd h HC)⟩,eB⟩
theorem vT{P ops o a}{K:Act->WP}{Q:Exit->Act->WP}{E}(O:o.guard=none){s x t}
 (ho:o.op=.call { callee:=.builtin .append,args:=#[s,x],argTypes:=#[t,t] })
 {base} e {i} size (V:P.underlying t=some (.slice e)) (hi:P.info? e=some i)
  n  (hs:a.eval s=v) (I:w.ownsRow base e size v n xs) (hx:a.eval x=sn)
 (h:K (a.put o.dst v) w):if Region.wanted o (yielded ops a.tmps)=true then Oper.wp P o a w K Q else E:=by
 have hw:Region.wanted o (yielded ops a.tmps)=true:=by simp[Region.wanted,O]
 rw[fE hw];have M:=run_append_owned_none (w:=w) _ t o.type e i _ V hi v n _ I;unfold Oper.wp;simp[execOp,ho,resolve,invoke,builtin,hs,hx,M,Result.andThen];exact h
theorem kC b o j:((az b o):Addr).add j=(az b (o+j)):=by
 unfold Addr.add;split <;> simp_all
theorem ke(w:World)x y z t:∀j u,[x,y,z][j]?=some u->(w.alloc (.cells #[x,y,z] t)).cell? (((az w.1.size 0):Addr).add j)=some u:=by
 intro j u I;match j,I with
 |0,I=>simp at I;subst I;simp[Addr.add]
 |1,I=>simp at I;subst I;simp[Addr.add]
 |2,I=>simp at I;subst I;simp[Addr.add]
theorem Tryz.infoDem:(Tryz.prog.info? 153).map (λi=>(i.zero,i.size,i.bytes))=some (some (.agg #[sn,.bool false,ai 0]),3,40):=Kl
def eD:Obj:=.cells #[] 153
def dD(u:Value)(d:Dem):Obj:=.cells #[u,.bool d.up,ai d.bd] 153
section
variable {w:World} {u:Value} {d:Dem}
theorem Ka:(w.alloc eD).ownsRow w.1.size 153 3 (sZ w.1.size 0 0 0) 0 []:=oM w _ 0 eA Dd rfl
theorem qIi:((w.alloc eD).alloc (dD u d)).ownsRow w.1.size 153 3 (sZ w.1.size 0 0 0) 0 []:=Ka.alloc _
theorem qIj:((w.alloc (dD u d)).alloc eD).ownsRow w.1.size 153 3 (sZ (w.1.size+1) 0 0 0) 0 []:=by
 have:=oM (base:=w.1.size) (e:=153) (size:=3) (w.alloc (dD u d)) #[] 0 Ss Dd rfl;rw[show(w.alloc (dD u d)).1.size=w.1.size+1 by simp]at this;exact this
theorem qIk:∀j x,[u,.bool d.up,ai d.bd][j]?=some x->((w.alloc (dD u d)).alloc eD).cell? (((az w.1.size 0):Addr).add j)=some x:=λj x I=>by
 have:=ke w u _ _ 153 j x I;rw[kC]at this |-;rw[dR _ _ _ Ss];exact this
theorem qIl:∀j x,[u,.bool d.up,ai d.bd][j]?=some x->((w.alloc eD).alloc (dD u d)).cell? (((az (w.1.size+1) 0):Addr).add j)=some x:=by
 have:=ke (w.alloc eD) u (.bool d.up) (ai d.bd) 153;rw[show(w.alloc eD).1.size=w.1.size+1 by simp]at this;exact this
end
theorem X5{y}(h:(sZ y 0 a b).ownBlock=some k):y=k:=by
 simpa[Value.ownBlock]using h
theorem Uq{x y}(M:∀j u,[x,y,z][j]?=some u->W.cell? (((az s 0):Addr).add j)=some u)(hs:s<W.1.size)(I:s≠g)(O:W.drew.grownBy w3 (sZ g 0 0 k).ownBlock):∀j u,[x,y,z][j]?=some u->w3.cell? (((az s 0):Addr).add j)=some u:=by
 intro j u V;have K:=M j u V;rw[kC]at K |-;exact(bF (w:=W) (O.block _ hs (by simpa[Value.ownBlock]using I))).trans K
theorem qCc{I p}(M:∀q∈I,IntsAt w q.1 q.2.pl)(O:IntsAt w p.1 p.2.pl)(hb:Bl w w2)(K:w2.ownsRow B 153 3 v (I.length+1) (dcs I++[p.1,.bool p.2.up,ai p.2.bd])):DP w2 v (I++[p]):=by
 refine qEb (B:=B) (by rw[qAB,lA];exact K) (λq hq=>?_);rcases cF.1 hq with h|h;exact(M q h).below hb;rw[cI.1 h];exact O.below hb
theorem JO n O{xs}(hn:n<=7)(k3:O.length<=100)(d8:∀p∈O,xG n p.2)
 w k  M  (ha:DP w va O) (hc:DP w vc M) (g8:M=[]->vc=sn) (k4:M.length<n) (d0:∀p∈M,xG n p.2) (hb:BestAt w n (O.map Prod.snd) vb best) (k5:k+n-M.length<=O.length)
 (d9:∀w vc vb M best,DP w va O->DP w vc M->(M=[]->vc=sn)->M.length<=n->(∀p∈M,xG n p.2)->BestAt w n (O.map Prod.snd) vb best->
  Cl 99 #[ai n,va,ai ((k:Int)+1),vc,vb,.bool most] w λe w'=>kB n (O.map Prod.snd) xs (k+1) (M.map Prod.snd) best e w'/\Bl w w'):
 Cl 99 #[ai n,va,ai k,vc,vb,.bool most] w λe w'=>kB n (O.map Prod.snd) xs k (M.map Prod.snd) best e w'/\Bl w w':=by
 have⟨i0,hi,a6,a7,a8⟩:=aX Tryz.infoDem;have hka:k<O.length:=Oo;have⟨pk,d5⟩:=Ex (O.getD k pd0);have e9:pk∈O:=by rw[d5];exact yL hka
 have j1:Hh (Compl n (O.map Prod.snd) xs k (M.map Prod.snd)->Compl n (O.map Prod.snd) xs (k+1) ((M++[pk]).map Prod.snd)\/Compl n (O.map Prod.snd) xs (k+1) (M.map Prod.snd)):=(λh=>by
  have:=qD9 (by rw[lM];exact hka) h;rw[QL,<-d5]at this;rw[mA];exact this)
 obtain⟨ab,lb,cb,rfl,k6⟩:=hb.form;have HA:=ay ha;have HC:=ay hc;have g9:=ay g8;have h4:=ay hb;have e0:=ay d9;have h5:=ay (λp hp=>by
  rcases cF.1 hp with h|h;exact d0 p h;rw[cI.1 h];exact d8 _ e9)
 have j2:=ay d0;have h6:=ay hc.each;have f7:=ay (ha.each _ e9);obtain⟨⟨av,cv,rfl,a4⟩,_⟩:=hc;obtain⟨⟨aa,ca,rfl,b8⟩,_⟩:=ha;have d1:∃b o,aa=some (az b o)/\w.cell? (az b (o+k*3))=some pk.1/\w.cell? (az b (o+k*3+1))=some (.bool pk.2.up)/\w.cell? (az b (o+k*3+2))=some (ai pk.2.bd):=by
  rcases b8 with h0|⟨b,o,e,a9⟩;omega;have⟨h1,h2,h3⟩:=XP O k hka;rw[<-d5]at h1 h2 h3;exact⟨b,o,e,a9 _ _ h1,a9 _ _ h2,a9 _ _ h3⟩
 obtain⟨b,o,rfl,e1,e2,e3⟩:=d1;have FX:Hh (∀W,Bl w W->W.cell? (az b (o+k*3))=some pk.1/\W.cell? (az b (o+k*3+1))=some (.bool pk.2.up)/\W.cell? (az b (o+k*3+2))=some (ai pk.2.bd)):=λW hW=>⟨(hW.cell (bL w _ e1)).trans e1,(hW.cell (bL w _ e2)).trans e2,(hW.cell (bL w _ e3)).trans e3⟩;have d2:=ay (qHN HC);have⟨u,d⟩:=pk;have⟨au,cu,f8,_⟩:=f7.o;simp only at f8;have d3:Hh (∀x∈[u,.bool d.up,ai d.bd],x.oneCell'=true):=(λx hx=>by
  simp only[cH,List.not_mem_nil,or_false]at hx;rcases hx with rfl|rfl|rfl;rw[f8];rfl;rfl;rfl)
 subst f8;generalize d.pl.length=lu at *;have j3:=ay (qCk M);clear d5 e9 d9 d0 d8 hb b8 g8;generalize hm:O.length=m at *;generalize hq:M.length=q at *;have i1:¬((q:Int)=n):=Oo;have i2:((q:Int) == (n:Int))=false:=Sy;have i3:¬((m:Int)<k+(n:Int)-(q:Int)):=Oo;have i4:(k:Int)<m:=Oo;have HM:=ay hm;have HQ:=ay hq;clear hm hq;go_enter func99,ntmps99;go_upto_region 16 with fail;go_cut [17] (λv wx=>Hh (Bl w wx/\DP wx v (M++[((.slice au lu cu:Value),d)])))
 case first=>
  have b1:Bl w (w.alloc eD):=aK;have b2:Bl w ((w.alloc eD).alloc (dD (.slice au lu cu) d)):=b1.alloc b1.size _;have o1:=Ka (w:=w);have o2:=qIi (w:=w) (u:=.slice au lu cu) (d:=d);have n2:=qIl (w:=w) (u:=.slice au lu cu) (d:=d);have b4:Bl w (w.alloc (dD (.slice au lu cu) d)):=aK;have b3:Bl w ((w.alloc (dD (.slice au lu cu) d)).alloc eD):=b4.alloc b4.size _;have o3:=qIj (w:=w) (u:=.slice au lu cu) (d:=d);have n3:=qIk (w:=w) (u:=.slice au lu cu) (d:=d);have j4:((w.alloc (dD (.slice au lu cu) d)).alloc eD).1.size=w.1.size+2:=Ss;have b9:=b3.size;have hs2:((w.alloc eD).alloc (dD (.slice au lu cu) d)).1.size=w.1.size+2:=Ss;have hle1:=b1.size;have hle2:=b2.size;have⟨p1,p2,p3⟩:=FX _ b1;by_cases j5:q=0
  .subst j5;have e4:=dV.1 HQ;have hv:=g9 e4;simp only[vI]at hv;obtain⟨rfl,-,rfl⟩:=hv;have h7:=ay e4;clear a4;unfold eD dD at *;go_region_law (first
    |(refine vT Fl Fl 153 3 underlying151 hi 0 Fl o1 Fl ?_)
    |(refine vT Fl Fl 153 3 underlying151 hi 0 Fl o2 Fl ?_)
    |(refine vT Fl Fl 153 3 underlying151 hi 0 Fl o3 Fl ?_)
    |(refine step_append_lies _ Fl _ _ _ Fl w.1.size 153 i0 (.agg #[sn,.bool false,ai 0]) 3 40 underlying151 hi a6 a7 a8 rfl Dd _ 0 [] Fl o2 (az (w.1.size+1) 0) 1 1 [.slice au lu cu,.bool d.up,ai d.bd] Fl Fl n2 d3.o Dd Dd Dd hle2 _ rfl ?_;intro g3 cp3 w3 I K c7 c8;have V:=b2.drew.grown K hle2 (λk e=>O1 (X5 e)))
    |(refine step_append_lies _ Fl _ _ _ Fl w.1.size 153 i0 (.agg #[sn,.bool false,ai 0]) 3 40 underlying151 hi a6 a7 a8 rfl Dd _ 0 [] Fl o3 (az w.1.size 0) 1 1 [.slice au lu cu,.bool d.up,ai d.bd] Fl Fl n3 d3.o Dd Dd Dd b9 _ rfl ?_;intro g3 cp3 w3 I K c7 c8;have V:=b3.drew.grown K b9 (λk e=>O1 (X5 e)))
    |fail)
   all_goals
    go_wp2
    go_meet
    refine ay ⟨V,qCc h6.o f7.o V (B:=w.1.size) ?_⟩
    rw[h7.o]
    exact I
  have f9:0<q:=Oo;have d1:∃b2 o2,av=some (az b2 o2)/\∀j u,(dcs M)[j]?=some u->w.cell? (az b2 (o2+j))=some u:=by
   rcases a4 with h0|h;omega;exact h
  obtain⟨bc,oc,rfl,a9⟩:=d1;have k7:q<=7:=Oo;have h8:∀j u,(dcs M)[j]?=some u->((w.alloc eD).alloc (dD (.slice au lu cu) d)).cell? (((az bc oc):Addr).add j)=some u:=λj u hj=>by
   have h1:=a9 j u hj;rw[kC];exact(b2.cell (bL w _ h1)).trans h1
  have h9:∀j u,(dcs M)[j]?=some u->(w.alloc eD).cell? (((az bc oc):Addr).add j)=some u:=λj u hj=>by
   have h1:=a9 j u hj;rw[kC];exact(b1.cell (bL w _ h1)).trans h1
  have g5:=j3.o;have i5:∀j u,(dcs M)[j]?=some u->((w.alloc (dD (.slice au lu cu) d)).alloc eD).cell? (((az bc oc):Addr).add j)=some u:=λj u hj=>by
   have h1:=a9 j u hj;rw[kC];exact(b3.cell (bL w _ h1)).trans h1
  have i6:∀w3,((w.alloc (dD (.slice au lu cu) d)).alloc eD).drew.grownBy w3 (sZ (w.1.size+1) 0 0 0).ownBlock->Bl w w3:=λw3 h=>b3.drew.grown h b9 (λk e=>O1 (X5 e));have c9:∀w3,(w.alloc eD).drew.grownBy w3 (sZ w.1.size 0 0 0).ownBlock->Bl w w3:=λw3 h=>b1.drew.grown h hle1 (λk e=>O1 (X5 e));have d4:∀w3,((w.alloc eD).alloc (dD (.slice au lu cu) d)).drew.grownBy w3 (sZ w.1.size 0 0 0).ownBlock->Bl w w3:=λw3 h=>b2.drew.grown h hle2 (λk e=>O1 (X5 e));clear a4 a9;unfold eD dD at *;go_region_law (first
   |(refine step_append_lies _ Fl _ _ _ Fl w.1.size 153 i0 (.agg #[sn,.bool false,ai 0]) 3 40 underlying151 hi a6 a7 a8 rfl Dd _ 0 [] Fl o1 (az bc oc) q cv (dcs M) Fl g5 h9 d2.o f9 Um Oo hle1 _ rfl ?_;intro g3 cp3 w3 I K c7 c8;simp only[cU,List.nil_append]at I;have V:=c9 _ K;have⟨r1,r2,r3⟩:=FX _ V)
   |(refine step_append_lies _ Fl _ _ _ Fl w.1.size 153 i0 (.agg #[sn,.bool false,ai 0]) 3 40 underlying151 hi a6 a7 a8 rfl Dd _ 0 [] Fl o2 (az bc oc) q cv (dcs M) Fl g5 h8 d2.o f9 Um Oo hle2 _ rfl ?_;intro g3 cp3 w3 I K c7 c8;simp only[cU,List.nil_append]at I;have V:=d4 _ K;have nB:=Uq n2 (by rw[hs2];omega) Oo K)
   |(refine step_append_lies _ Fl _ _ _ Fl w.1.size 153 i0 (.agg #[sn,.bool false,ai 0]) 3 40 underlying151 hi a6 a7 a8 rfl Dd _ 0 [] Fl o3 (az bc oc) q cv (dcs M) Fl g5 i5 d2.o f9 Um Oo b9 _ rfl ?_;intro g3 cp3 w3 I K c7 c8;simp only[cU,List.nil_append]at I;have V:=i6 _ K;have nC:=Uq n3 (by rw[j4];omega) Oo K)
   |(refine step_append_lies _ Fl _ _ _ Fl w.1.size 153 i0 (.agg #[sn,.bool false,ai 0]) 3 40 underlying151 hi a6 a7 a8 rfl Dd _ _ _ Fl (I.alloc _) (az w3.1.size 0) 1 1 [.slice au lu cu,.bool d.up,ai d.bd] Fl Fl (ke w3 _ _ _ _) d3.o Dd Um Oo (bM V.size Ss) _ rfl ?_;intro g4 i7 w4 b7 a3 e6 e7;have d6:=(V.alloc V.size _).grown a3 (bM V.size Ss) (λk e=>(I.lt k e).1))
   |(refine step_append_lies _ Fl _ _ _ Fl w.1.size 153 i0 (.agg #[sn,.bool false,ai 0]) 3 40 underlying151 hi a6 a7 a8 rfl Dd _ _ _ Fl I (az (w.1.size+1) 0) 1 1 [.slice au lu cu,.bool d.up,ai d.bd] Fl Fl nB d3.o Dd Um Oo V.size _ rfl ?_;intro g4 i7 w4 b7 a3 e6 e7;have d6:=V.grown a3 V.size (λk e=>(I.lt k e).1))
   |(refine step_append_lies _ Fl _ _ _ Fl w.1.size 153 i0 (.agg #[sn,.bool false,ai 0]) 3 40 underlying151 hi a6 a7 a8 rfl Dd _ _ _ Fl I (az w.1.size 0) 1 1 [.slice au lu cu,.bool d.up,ai d.bd] Fl Fl nC d3.o Dd Um Oo V.size _ rfl ?_;intro g4 i7 w4 b7 a3 e6 e7;have d6:=V.grown a3 V.size (λk e=>(I.lt k e).1))
   |fail)
  all_goals
   go_wp2
   go_meet
   refine ay ⟨d6,qCc h6.o f7.o d6 (B:=w.1.size) ?_⟩
   rw[HQ.o]
   simpa using b7
 case rest=>
  have HX:=hcut;obtain⟨⟨a5,c5,e5,-⟩,-⟩:=HX.2;rw[lA,HQ.o]at e5;simp only[cQ,List.length_nil,cU]at e5;subst e5
  go_upto_region 18 with (go_at_call 99;apply (ay (e0 _ _ _ _ _ (HA.o.below HX.1) HX.2 (λh=>by simp at h) (by rw[lA,HQ.o];simp;omega) h5 (h4.o.below HX.1))).o.mono;rintro e w1 ⟨⟨v1,g6,rfl,c9,e8⟩,i8⟩);have d7:=bt HX.1 i8;have K2:=
   ay (e0 _ _ _ _ _ (HA.o.below d7) (HC.o.below d7) g9 (by rw[HQ.o];omega) j2 c9)
  have i9:=ay e8;have j6:=ay d7;clear e8 i8 c9 d7;go_wp2_with (go_at_call 99;apply K2.o.mono;rintro e w2 ⟨⟨v2,g7,rfl,d4,j0⟩,k0⟩);go_ret;refine⟨⟨_,g7,rfl,d4,λh=>j0 ?_⟩,bt j6.o k0⟩;rcases h with h|h;exact .inl (i9 (.inl h));rcases j1.o h with h1|h1;exact .inl (i9 (.inr h1));exact .inr h1
theorem QQ n most I xs(a4:1<=n)(hn:n<=7)(V:I.length<=100)(O:∀p∈I,xG n p.2)(hS:Yd n most (I.map Prod.snd) xs)va:
 ∀f w k vc vb K best,I.length-k<=f->k<=I.length->DP w va I->DP w vc K->(K=[]->vc=sn)->K.length<=n->(∀p∈K,xG n p.2)->BestAt w n (I.map Prod.snd) vb best->
  Cl 99 #[ai n,va,ai (k:Nat),vc,vb,.bool most] w λe w'=>kB n (I.map Prod.snd) xs k (K.map Prod.snd) best e w'/\Bl w w'
 |f,w,k,vc,vb,K,best,hf,hk,ha,hc,a3,a5,M,hb=>by
  by_cases h1:K.length=n;exact JL n I a4 hn V O hS w k K ha hc h1 M hb;by_cases h2:I.length<k+n-K.length;exact JM n I hn V w k hk K ha hc Oo hb h2;match f,hf with
  |0,hf=>omega
  |f+1,hf=>
   refine JO n I hn V O w k K ha hc a3 Oo M hb Oo (λw vc vb K best ha hc a3 a5 M hb=>?_);have:=QQ n most I xs a4 hn V O hS va f w (k+1) vc vb K best Oo Oo ha hc a3 a5 M hb;rw[show((k+1:Nat):Int)=(k:Int)+1 by omega]at this;exact this
def XX(l:LN):LV:=(l.map Int.ofNat).map ai
structure DL(W:World)(B:Nat)(v:Value)(ps:List (Value×Dem)):Prop where
 own:W.ownsRow B 153 3 v ps.length (dcs ps)
 each:∀p∈ps,W.ownsRow B 3 1 p.1 p.2.pl.length (XX p.2.pl)
theorem qGK{l}(h:W.ownsRow B 3 1 v l.length (XX l)):IntsAt W v l:=by
 obtain⟨a,cp,e,K⟩:=qN (by rw[lM];exact h);rw[lM]at e K;refine⟨a,cp,e,λj M=>?_⟩;rcases K with h0|⟨b,o,V,I⟩;omega;refine⟨b,o,V,(I j M).trans ?_⟩;rw[gD,bK,gD,gE M];rfl
section
variable {W W' w3:World} {B:Nat} {v v' u:Value} {ps qs:List (Value×Dem)} {p:Value×Dem} {o:Obj}
theorem DL.below(h:DL W B v ps)(hb:Bl W W'):DL W' B v ps:=⟨qB h.own hb,λp I=>qB (h.each p I) hb⟩
theorem DL.dp(h:DL W B v ps):DP W v ps:=qEb h.own (λp I=>qGK (h.each p I))
theorem DL.nil(W:World):DL (W.alloc eD) W.1.size (sZ W.1.size 0 0 0) []:=⟨Ka,λp I=>by cases I⟩
theorem DL.base(h:DL W B v ps)(hB:B'<=B):DL W B' v ps:=⟨qE h.own hB,λp I=>qE (h.each p I) hB⟩
theorem zv(K:(W.alloc o).grownBy w3 v.ownBlock)(hb:b<W.1.size)(I:some b≠v.ownBlock):w3.1[b]?=W.1[b]?:=
 (K.block b Sy I).trans (eL hb)
theorem DL.step(h:DL W B v ps)(V:W.ownsRow B 3 1 p.1 p.2.pl.length (XX p.2.pl))(I:w3.ownsRow B 153 3 v' (ps.length+1) (dcs ps++[p.1,.bool p.2.up,ai p.2.bd]))(hg:(W.alloc o).grownBy w3 v.ownBlock):DL w3 B v' (ps++[p]):=by
 have hint:∀{x:Value} {k:Nat} {xs:LV},W.ownsRow B 3 1 x k xs->w3.ownsRow B 3 1 x k xs:=λM=>
  qD M (λg K=>zv hg ((M.lt g K).2) (λe=>own_ne h.own (qK M K) Dd e))
 refine⟨by rw[qAB,lA];exact I,λq hq=>?_⟩;rcases cF.1 hq with O|O;exact hint (h.each q O);rw[cI.1 O];exact hint V
end
theorem Ji{α β:Type}{f:α->β}{l:List α}d(h:k<l.length):(l.take (k+1)).map f=(l.take k).map f++[f (l.getD k d)]:=by
 rw[tA,gE h,mA,gD,gE h];rfl
theorem qE6 p k:(plc p k).map ai=XX (plN p k):=rfl
theorem qH0 p k:(plc p k).length=(plN p k).length:=by rw[qIb,lM]
theorem ISS.get(h:ISS w v es){a:OA}{cap}(hv:v=.slice a n cap)(M:j<es.length):∃b o u,a=some (az b o)/\w.cell? (az b (o+j))=some u/\IS w u (es.getD j []):=by
 have⟨a',K,e,I⟩:=h;rw[hv]at e;simp only[vI]at e;obtain⟨rfl,-,-⟩:=e;rcases I with h0|⟨b,o,O,I⟩;omega;have⟨u,V,h2⟩:=I j M;exact⟨b,o,u,O,V,h2⟩
theorem qB7 n most I x(V:1<=n)(hn:n<=7)(a3:I.length<=100)(M:∀D∈I.map Prod.snd,xG n D)(hS:Yd n most (I.map Prod.snd) x)va w(ha:DP w va I):
 Cl 99 #[ai n,va,ai 0,sn,sn,.bool most] w λe w'=>∃v,e=.returned v/\IR w' v (prs n x)/\Bl w w':=by
 have:=QQ n _ I x V hn a3 (λp O=>M _ (cC.2 ⟨p,O,rfl⟩)) hS _ I.length w 0 sn sn [] none Oo Oo ha ⟨⟨none,0,rfl,.inl rfl⟩,λp O=>by cases O⟩ (λ_=>rfl) Ss (λp O=>by cases O) ⟨none,0,rfl⟩;apply this.mono;rintro e w' ⟨⟨v,K,rfl,a4,hst⟩,hb⟩;have h1:=hst (.inr (qCP hS));cases K with
 |none=>exact absurd h1 id
 |some b=>exact⟨v,rfl,by rw[<-qEa h1];exact a4.1,hb⟩
structure AT(W:World)(gd:Nat)(v:Value)(up:Bool):Prop where
 typ:∃cur,W.1[gd]?=some (.cells cur 153 (0,0))
 arr:ArrAt W gd 3 (f3 v (.bool up) (ai 1))
section
variable {W W' w1:World} {gd:Nat} {v v':Value} {up:Bool}
theorem AT.new(W:World)v up:AT (W.alloc (.cells #[v,.bool up,ai 1] 153)) W.1.size v up:=⟨⟨_,eO⟩,qj W 3 (f3 v _ (ai 1)) _⟩
theorem AT.move(h:AT W gd v up)(e:W'.1[gd]?=W.1[gd]?):AT W' gd v up:=⟨by rw[e];exact h.typ,h.arr.move e⟩
theorem AT.lt(h:AT W gd v up):gd<W.1.size:=xo h.typ
theorem AT.set(h:AT W gd v up)v':AT (W.setCell (az gd 0) v') gd v' up:=by
 refine⟨qU h.typ,?_⟩;have:=h.arr.set (i:=0) Oo v';refine⟨λj I=>?_,this.free⟩;rw[this.cell j I];match j,I with
 |0,_=>rfl
 |1,_=>rfl
 |2,_=>rfl
theorem AT.grow{o}{ys:LV}(h:AT W gd v up)(K:W.ownsRow B 3 1 v n xs)(I:w1.ownsRow B 3 1 v' k ys)(V:(W.alloc o).grownBy w1 v.ownBlock):
 (w1.cell? (az gd 0)=some v/\w1.frozen? (az gd 0)=false)/\AT (w1.setCell (az gd 0) v') gd v' up/\(w1.setCell (az gd 0) v').ownsRow B 3 1 v' k ys:=by
 have M:=h.move (zv V h.lt (own_ne K h.typ Dd));refine⟨⟨M.arr.cell 0 Oo,M.arr.free 0 Oo⟩,M.set v',?_⟩;exact qD I (λg O=>eG (λe=>own_ne I M.typ Dd (by rw[O];exact congrArg _ e.symm)))
end
theorem qDn(I:k<bag.length):xQ ((qX bag es).take (k+1))=xQ ((qX bag es).take k)++[⟨plN (λi=>decide (bag.getD k 0∈es.getD i [])) es.length,false,1⟩]:=by
 unfold xQ;rw[Ji [] (by rw[yz];exact I),jl bag es I]
theorem qB8 k:yF (k+1)=yF k++[⟨[k],false,0⟩]:=by
 unfold yF;rw[dQ,mA];rfl
def yA(k:Int)(l:LI)(j:Nat):Bool:=decide (0<=l.getD j 0)&&decide (l.getD j 0<k)&&(decide (j=0)||decide (l.getD (j-1) 0<l.getD j 0))
def xJ(k:Int)(l:LI):Bool:=(List.range l.length).all (yA k l)
theorem VN{k}(h:∀i,i<l.length->yA k l i=true):xJ k l=true:=qh h
theorem qCC{k}(I:j<l.length)(h:yA k l j=false):xJ k l=false:=qe I h
theorem qCD k l j:
 (l.getD j 0<0/\yA k l j=false)\/(0<=l.getD j 0/\k<=l.getD j 0/\yA k l j=false)\/(0<=l.getD j 0/\l.getD j 0<k/\j=0/\yA k l j=true)\/
 (0<=l.getD j 0/\l.getD j 0<k/\0<j/\l.getD j 0<=l.getD (j-1) 0/\yA k l j=false)\/(0<=l.getD j 0/\l.getD j 0<k/\0<j/\l.getD (j-1) 0<l.getD j 0/\yA k l j=true):=by
 unfold yA;generalize l.getD j 0=x;generalize l.getD (j-1) 0=y;by_cases K:x<0;left;refine⟨K,?_⟩;simp;omega;by_cases M:k<=x;right;left;refine⟨Oo,M,?_⟩;simp;omega;by_cases I:j=0;right;right;left;refine⟨Oo,Oo,I,?_⟩;simp[I];omega;by_cases O:y<x;right;right;right;right;refine⟨Oo,Oo,Oo,O,?_⟩;simp;omega;right;right;right;left;refine⟨Oo,Oo,Oo,Oo,?_⟩;simp;omega
theorem qA3{k}(I:k<=6)l:xJ k l=(qb l&&zy k l):=by
 cases hs:qb l
 .rw[Bool.false_and];refine Bool.eq_false_iff.2 λh=>?_;unfold xJ at h;rw[aT]at h;have:=QI λi hi=>by
   have:=h i (by simpa using hi);unfold yA at this;unfold xV;simp only[bV,Bool.or_eq_true,dE]at this |-;omega
  rw[this]at hs;cases hs
 rw[dG];cases hl:zy k l
 refine Bool.eq_false_iff.2 λh=>?_;unfold zy at hl;rw[Bool.or_eq_false_iff,aP,aP]at hl;unfold xJ at h;rw[aT]at h;have:=h (l.length-1) Sy;unfold yA at this;simp only[bV,dE]at this;exact hl.2 this.1.2;refine VN λi hi=>?_;have K:=ud hs hi;have M:=Qf hs hl (yT hi);unfold yA;simp only[bV,Bool.or_eq_true,dE];omega
theorem Qg w k(a5:0<=k)(a6:k<=6)v(h:IS w v l)(hl:l.length<=1099511627776):
 aF 52 #[v,ai k] w (.bool (xJ k l)) λw'=>w'=w:=by
 obtain⟨a,cap,rfl,hc⟩:=h;obtain⟨n,hn⟩:=Ex l.length;obtain⟨res,K⟩:=Ex (xJ k l);rw[<-K];change Hh _ at K;rw[<-hn]at hc hl |-;have HC:=ay hc;have HN:=ay hn;clear hc hn;go_enter func52,ntmps52;go_wp2;go_loop [9] (λt=>∃j:Nat,j<=n/\t=ai j/\Hh (∀i,i<j->yA k l i=true)) (λt=>n-(intOf t).toNat);exact⟨0,nZ _,rfl,ay (λi hi=>Oo)⟩;obtain⟨j,hj,rfl,O⟩:=hrel;by_cases a3:j<n
 .have i1:(j:Int)<n:=Oo;rcases HC.o with h0|⟨b,o,rfl,I⟩;omega;have c1:=I j a3;have a4:=qCD k l j;have fin:yA k l j=false->Hh (res=false):=λe=>K.o.trans (qCC (by rw[<-HN.o];exact a3) e);have nxt:yA k l j=true->Hh (∀i,i<j+1->yA k l i=true):=λe i hi=>by
   by_cases e2:i=j;rw[e2];exact e;exact O i Oo
  have c2:0<j->aC w b (o+(j-1)) (ai (l.getD (j-1) 0)):=λe=>I _ Oo;clear I O;generalize l.getD j 0=x,l.getD (j-1) 0=y at *;rcases a4 with ⟨h1,h2⟩|⟨h1,h2,V⟩|⟨h1,h2,V,h4⟩|⟨h1,h2,V,h4,h5⟩|⟨h1,h2,V,h4,h5⟩
  .have M:=fin h2;clear c2 fin nxt h2;go_wp2_with (go_at_call 40;apply (vL Oo).mono;rintro e w' ⟨rfl,rfl⟩);go_ret;exact⟨qJ (by rw[M.o]),rfl⟩
  .have M:=fin V;have d1:decide (x<0)=false:=Sy;clear c2 fin nxt V;go_wp2_with (go_at_call 40;apply (vM Oo Oo).mono;rintro e w' ⟨rfl,rfl⟩);go_ret;exact⟨qJ (by rw[M.o]),rfl⟩
  .have M:=nxt h4;have d1:decide (x<0)=false:=Sy;have d2:decide (k<=x)=false:=Sy;subst V;have a7:aC w b o (ai x):=by simpa using c1
   clear c2 fin nxt h4;go_wp2_with (go_at_call 40;apply (zP Oo Oo).mono;rintro e w' ⟨rfl,rfl⟩);go_round;exact⟨0+1,Oo,Gg,M⟩;exact Im
  .have M:=fin h5;have d1:decide (x<0)=false:=Sy;have d2:decide (k<=x)=false:=Sy;have c3:=c2 V;have i3:(0:Int)<j:=Oo;have i4:((j:Int)-1).toNat=j-1:=Oo;clear c2 fin nxt h5;go_wp2_with (go_at_call 40;apply (zP Oo Oo).mono;rintro e w' ⟨rfl,rfl⟩);go_ret;exact⟨qJ (by rw[M.o]),rfl⟩
  have M:=nxt h5;have d1:decide (x<0)=false:=Sy;have d2:decide (k<=x)=false:=Sy;have d3:decide (x<=y)=false:=Sy;have c3:=c2 V;have i3:(0:Int)<j:=Oo;have i4:((j:Int)-1).toNat=j-1:=Oo;clear c2 fin nxt h5;go_wp2_with (go_at_call 40;apply (zP Oo Oo).mono;rintro e w' ⟨rfl,rfl⟩);go_round;exact⟨j+1,Oo,Gg,M⟩;exact Im
 obtain rfl:j=n:=Oo;have M:Hh (res=true):=K.o.trans (VN (λi hi=>O i (by rw[HN.o];exact hi)));have i1:¬((j:Int)<j):=Oo;clear O;go_wp2;go_ret;exact⟨qJ (by rw[M.o]),rfl⟩
theorem Qh w v2 l K(h:IS w v l)(hl:l.length<=1099511627776)(h2:IS w v2 K)(a3:K.length<=1099511627776):
 aF 56 #[v,v2] w (.bool (vJ l K)) λw'=>w'=w:=by
 obtain⟨a,cap,rfl,hc⟩:=h;have H2:=ay h2;obtain⟨a2,a4,rfl,-⟩:=h2;have⟨res,I⟩:=Ex (vJ l K);rw[<-I];have HF:Hh (∀j,j<l.length->decide (l.getD j 0∈K)=false->res=false):=λj hj e=>by
  rw[I];unfold vJ;exact xY _ 0 l j hj e
 have HT:Hh ((∀j,j<l.length->decide (l.getD j 0∈K)=true)->res=true):=λh1=>by
  rw[I];unfold vJ;exact ug _ 0 l h1
 have⟨n,hn⟩:=Ex l.length;rw[<-hn]at hc hl HF HT |-;have HC:=ay hc;clear hc hn I;go_enter func56,ntmps56;go_wp2;go_loop [9] (λt=>∃j:Nat,j<=n/\t=ai j/\Hh (∀i,i<j->decide (l.getD i 0∈K)=true)) (λt=>n-(intOf t).toNat);exact⟨0,eC,rfl,ay (λi hi=>Oo)⟩;obtain⟨j,hj,rfl,O⟩:=hrel;by_cases V:j<n
 .have i1:=aV V;rcases HC.o with h0|⟨b,o,rfl,M⟩;omega;have c1:=M j V;have HK:=ay (ze w _ K (l.getD j 0) H2 a3);have fin:=HF j V;have nxt:decide (l.getD j 0∈K)=true->Hh (∀i,i<j+1->decide (l.getD i 0∈K)=true):=λe i hi=>by
   by_cases e2:i=j;rw[e2];exact e;exact O i Oo
  clear M O;generalize decide (l.getD j 0∈K)=y at *;generalize l.getD j 0=x at *;cases y
  .obtain rfl:=fin rfl;clear nxt;go_wp2_with fail;apply HK.o.mn;intro w1 hw1;subst w1;go_wp2;go_ret;exact⟨rfl,rfl⟩
  have hf:=nxt rfl;clear fin nxt;go_wp2_with fail;apply HK.o.mn;intro w1 hw1;subst w1;go_wp2;go_round;exact⟨j+1,Oo,Gg,hf⟩;exact Im
 obtain rfl:j=n:=Oo;obtain rfl:=HT O;have i1:=aY j;clear O;go_wp2;go_ret;exact⟨rfl,rfl⟩
theorem qCE{p}(I:k<l.length):(l.take (k+1)).filter p=if p (l.getD k 0) then (l.take k).filter p++[l.getD k 0] else (l.take k).filter p:=by
 rw[tA,gE I,cZ];have e:l.getD k 0=l[k]:=by rw[gD,gE I];rfl
 rw[e];simp only[Option.toList_some];by_cases h:p l[k]=true;rw[fE h,List.filter_cons_of_pos h];rfl;rw[fF h,List.filter_cons_of_neg h];simp
theorem UJ w v{l2}(h:IS w v l)(hl:l.length<=1099511627776)(h2:IS w v2 l2)(a8:l2.length<=1099511627776):
 Cl 97 #[v,v2] w λe w'=>∃u,e=.returned u/\w'.ownsRow w.1.size 3 1 u (qY l2 l).length ((qY l2 l).map ai)/\Bl w w':=by
 obtain⟨i0,hi,a9,b1,b7⟩:=aX Tryz.infoInt;obtain⟨a,cap,rfl,hc⟩:=h;have H2:=ay h2;obtain⟨a2,c7,rfl,-⟩:=h2;obtain⟨M,O⟩:=Ex (λk=>(l.take k).filter λx=>decide (x∈l2));have HS:Hh (∀k,k<l.length->M (k+1)=if decide (l.getD k 0∈l2) then M k++[l.getD k 0] else M k):=ay λk hk=>by rw[O];exact qCE hk
 have H0:Hh (M 0=[]):=ay (by rw[O];rfl);have HE:Hh (M l.length=qY l2 l):=ay (by rw[O];simp[qY]);have b8:Hh (∀k,(M k).length<=k):=ay λk=>by
  rw[O];exact bM (dH _ _) Sy
 rw[<-HE.o];obtain⟨n,hn⟩:=Ex l.length;rw[<-hn]at hc hl HS |-;have HC:=ay hc;clear hc hn O HE;go_enter func97,ntmps97;go_wp2;have b0:Bl w (w.alloc (.cells #[] 3)):=aK;have a6:=ay b0;clear b0;go_loopw [5,11] (λv t wr=>∃k:Nat,k<=n/\t=ai k/\wr.ownsRow w.1.size 3 1 v (M k).length ((M k).map ai)/\Bl w wr) (λ_ t _=>n-(intOf t).toNat);exact⟨0,eC,rfl,by rw[H0.o];exact oM w _ 0 eA Dd rfl,a6⟩;clear a6;obtain⟨k,hk,rfl,I,K⟩:=hrel;have c8:=b8 k;have b9:=K.size;by_cases a7:k<n
 .have i1:=aV a7;rcases HC.o with h0|⟨b,o,rfl,V⟩;omega;have c1:=qF K (V k a7);have HK:=ay (ze _ _ _ (l.getD k 0) (H2.o.below K) a8);have e1:=HS k a7;clear V;generalize decide (l.getD k 0∈l2)=y at *;generalize l.getD k 0=x at *;cases y
  .rw[fF Dd]at e1;have E1:=ay e1;clear e1;go_wp2_with fail;apply HK.o.mn;intro w1 hw1;subst w1;go_wp2;go_roundw;exact⟨k+1,Oo,Gg,by rw[E1.o];exact I,K⟩;exact Im
  rw[fE rfl]at e1;have E1:=ay e1;clear e1;go_wp2_with fail;apply HK.o.mn;intro w1 hw1;subst w1;go_wp2_with (first
   |(at_builtin;refine wpList_append_own _ rfl _ _ 24 rfl _ 3 _ _ 1 8 underlying24 hi a9 b1 b7 rfl Dd _ _ _ rfl (I.alloc _) (az _ 0) 1 1 [ai x] rfl rfl ?c1 ?c2 ?c3 ?c4 ?c5 ?_)|fail)
  case c1=>
   intro j u hj;match j,hj with
   |0,hj=>simp at hj;subst hj;simp[Addr.add]
  case c2=>intro u hu;simp at hu;subst hu;rfl
  case c3=>unfold maxLen;omega
  case c4=>omega
  case c5=>simp;omega
  intro v' w1 a3 a4 _;have hb:=Q0 b9 I K a4;have a5:w1.ownsRow w.1.size 3 1 v' (M (k+1)).length ((M (k+1)).map ai):=by
   rw[E1.o];simpa using a3
  clear a3 a4 I;go_wp2;go_roundw;exact⟨k+1,Oo,Gg,a5,hb⟩;exact Im
 obtain rfl:k=n:=Oo;have i1:=aY k;go_wp2;go_ret;exact⟨_,rfl,I,K⟩
theorem qGS{x}(I:j<es.length):zr (es.take (j+1)) x=(zr (es.take j) x||decide (x∈es.getD j [])):=by
 unfold zr;rw[tA,gE I,List.any_append,gD,gE I];simp
theorem qH4{k}:xN k es=(decide (0<=k)&&decide (k<=6)&&decide (es.length<=7)&&es.all (xJ k)&&(List.range k.toNat).all λv=>zr es (v:Int)):=by
 unfold xN zf;by_cases I:k<=6
 case neg=>rw[fC I];simp
 have:es.all (xJ k)=(es.all qb&&es.all (zy k)):=by
  rw[show xJ k=λl=>qb l&&zy k l from funext λl=>qA3 I l];induction es with
  |nil=>rfl
  |cons e es ih=>
   simp only[List.all_cons,ih];cases qb e <;> cases zy k e <;> simp
 rw[this];cases decide (0<=k) <;> cases decide (k<=6) <;> cases decide (es.length<=7) <;> cases es.all qb <;> cases es.all (zy k) <;> rfl
theorem VO w k(h:ISS w ve es)(hl:qS es):
 aF 54 #[ai k,ve] w (.bool (xN k es)) λw'=>w'=w:=by
 obtain⟨a,cap,rfl,hc⟩:=h;have⟨c9,a6⟩:=hl;have⟨res,M⟩:=Ex (xN k es);rw[<-M];rw[qH4]at M;change Hh _ at M hc a6;by_cases V:0<=k
 case neg=>
  have hf:res=false:=by rw[M.o,fC V];simp
  subst hf;generalize es.length=n at *;go_enter func54,ntmps54;go_wp2_with fail;apply (vL Oo).mn;intro w1 hw1;subst w1;go_wp2;go_ret;exact⟨rfl,rfl⟩
 by_cases a3:k<=6
 case neg=>
  have hf:res=false:=by rw[M.o,fC a3];simp
  subst hf;generalize es.length=n at *;go_enter func54,ntmps54;go_wp2_with fail;apply (vM Oo Oo).mn;intro w1 hw1;subst w1;go_wp2;go_ret;exact⟨rfl,rfl⟩
 by_cases h7:es.length<=7
 case neg=>
  have hf:res=false:=by rw[M.o,fC h7];simp
  subst hf;have i1:(7:Int)<(es.length:Int):=Oo;generalize es.length=n at *;go_enter func54,ntmps54;go_wp2_with fail;apply (zP Oo Oo).mn;intro w1 hw1;subst w1;go_wp2;go_ret;exact⟨rfl,rfl⟩
 rw[fD V,fD a3,fD h7]at M;simp only[dG]at M;have a5:Hh (∀j,j<es.length->xJ k (es.getD j [])=false->res=false):=λj hj e=>by
  rw[M.o,xY (xJ k) [] es j hj e];simp
 have a7:Hh (∀v,v<k.toNat->zr es (v:Int)=false->res=false):=λv hv e=>by
  rw[M.o,qe hv e];simp
 have HT:Hh ((∀j,j<es.length->xJ k (es.getD j [])=true)->(∀v,v<k.toNat->zr es (v:Int)=true)->res=true):=λh1 h2=>by
  rw[M.o,ug (xJ k) [] es h1,qh h2];rfl
 have HA:Hh (∀x j,j<es.length->zr (es.take (j+1)) x=(zr (es.take j) x||decide (x∈es.getD j []))):=λx j hj=>qGS hj;have d0:Hh (∀x,zr (es.take 0) x=false):=λx=>rfl;have a8:Hh (∀x,zr (es.take es.length) x=zr es x):=λx=>Ss;clear M;have d7:¬((7:Int)<(es.length:Int)):=Oo;have⟨n,hn⟩:=Ex es.length;rw[<-hn]at a5 HT c9 hc HA a8 d7 |-;clear hn h7;go_enter func54,ntmps54;go_wp2_with fail;apply (zP Oo Oo).mn;intro w1 hw1;subst w1;go_wp2;go_loop [21] (λt=>∃j:Nat,j<=n/\t=ai j/\Hh (∀i,i<j->xJ k (es.getD i [])=true)) (λt=>n-(intOf t).toNat);exact⟨0,eC,rfl,ay (λi hi=>Oo)⟩;obtain⟨j,hj,rfl,K⟩:=hrel;by_cases a9:j<n
 .have i1:=aV a9;rcases hc.o with h0|⟨b,o,rfl,I⟩;omega;have⟨u,c1,hu⟩:=I j a9;have HK:=ay (Qg w k V a3 u hu (a6 j));obtain⟨a1,b1,rfl,-⟩:=hu;have fin:=a5 j a9;have nxt:xJ k (es.getD j [])=true->Hh (∀i,i<j+1->xJ k (es.getD i [])=true):=λe i hi=>by
   by_cases e2:i=j;rw[e2];exact e;exact K i Oo
  clear I K;generalize (es.getD j []).length=m,xJ k (es.getD j [])=y at *;cases y
  .obtain rfl:=fin rfl;clear nxt;go_wp2_with fail;apply HK.o.mn;intro w1 hw1;subst w1;go_wp2;go_ret;exact⟨rfl,rfl⟩
  have hf:=nxt rfl;clear fin nxt;go_wp2_with fail;apply HK.o.mn;intro w1 hw1;subst w1;go_wp2;go_round;exact⟨j+1,Oo,Gg,hf⟩;exact Im
 obtain rfl:j=n:=Oo;have b7:=ay (HT K);have i1:=aY j;clear K HT a5;have⟨q,hq⟩:=Ex k.toNat;obtain rfl:k=(q:Int):=Oo;rw[<-hq]at b7 a7;clear hq V;have d3:q<=6:=Oo;clear a3;go_wp2;go_loop [7] (λt=>∃v:Nat,v<=q/\t=ai v/\Hh (∀i:Nat,i<v->zr es (i:Int)=true)) (λt=>q-(intOf t).toNat);exact⟨0,eC,rfl,ay (λi hi=>Oo)⟩;obtain⟨v,hv,rfl,K⟩:=hrel;by_cases d1:v<q
 .have i2:=aV d1;have fin:=a7 v d1;have nxt:zr es (v:Int)=true->Hh (∀i:Nat,i<v+1->zr es (i:Int)=true):=λe i hi=>by
   by_cases e2:i=v;rw[e2];exact e;exact K i Oo
  have b8:=ay (d0 v);have a4:=a8 v;rw[<-a4]at fin nxt;have b9:=ay fin;have c7:=ay nxt;clear K fin nxt a4;go_wp2;go_loop [8,37] (λs t=>∃i:Nat,i<=j/\t=ai i/\s=.bool (zr (es.take i) (v:Int))) (λ_ t=>j-(intOf t).toNat);exact⟨0,eC,rfl,by rw[b8.o]⟩;obtain⟨i,hi,rfl,rfl⟩:=hrel;by_cases c8:i<j
  .have i3:=aV c8;rcases hc.o with h0|⟨b,o,rfl,I⟩;omega;have⟨u,c1,hu⟩:=I i c8;have HK:=ay (ze w u _ v hu (a6 i));obtain⟨a1,b1,rfl,-⟩:=hu;have hs:=(HA v) i c8;clear I;generalize (es.getD i []).length=m,decide ((v:Int)∈es.getD i [])=f,zr (es.take i) (v:Int)=s at *;cases s
   .go_wp2_with fail;apply HK.o.mn;intro w1 hw1;subst w1;go_wp2;go_round;exact⟨i+1,Oo,Gg,by rw[hs];rfl⟩;exact Im
   go_wp2;go_round;exact⟨i+1,Oo,Gg,by rw[hs];rfl⟩;exact Im
  obtain rfl:i=j:=Oo;have i3:=aY i;have fin:=b9.o;have nxt:=c7.o;clear b9 c7;generalize zr (es.take i) (v:Int)=s at *;cases s
  .obtain rfl:=fin rfl;clear nxt;go_wp2;go_ret;exact⟨rfl,rfl⟩
  have hf:=nxt rfl;clear fin nxt;go_wp2;go_round;exact⟨v+1,Oo,Gg,hf⟩;exact Im
 obtain rfl:v=q:=Oo;obtain rfl:=b7 K;have i2:=aY v;clear K;go_wp2;go_ret;exact⟨rfl,rfl⟩
theorem YW x{n d bs ps}(hb:ISS w vb bs)(hl:qS bs)(c8:bs.length<=12)(hp:IS w vp ps)(d7:Q4 ps bs.length):
 aG 55 #[.agg #[vb,vp,vh,vw,ai n,ai d],ai x] w (.bool (decide (qu x bs ps bs.length=1))):=by
 have a8:Hh (Bl w (w.alloc (.cells #[vb,vp,vh,vw,ai n,ai d] 38))):=ay (aK);have c0:(w.alloc (.cells #[vb,vp,vh,vw,ai n,ai d] 38)).cell? (az w.1.size 0)=some vb:=by rw[eH rfl];rfl
 have c1:(w.alloc (.cells #[vb,vp,vh,vw,ai n,ai d] 38)).cell? (az w.1.size 1)=some vp:=by rw[eH rfl];rfl
 obtain⟨W,hW⟩:=Ex (w.alloc (.cells #[vb,vp,vh,vw,ai n,ai d] 38));rw[<-hW]at a8 c0 c1;obtain⟨c9,a9⟩:=d7;have d8:=hp.below a8;have d9:=hb.below a8;clear hb hp;obtain⟨a,cap,rfl,hc⟩:=d9;obtain⟨a2,f7,rfl,b9⟩:=d8;rw[c9]at b9 c1;obtain⟨e0,d0⟩:=hl;have d2:=ay a9;change Hh _ at hc b9 d0;have HT:Hh (∀i,qu x bs ps (i+1)=qu x bs ps i+if xI x bs ps i then 1 else 0):=ay λi=>rfl;have d3:=ay (Q3 x bs ps);have e4:Hh (∀i,xI x bs ps i=(decide (x∈bs.getD i [])&&!(decide (0<=ps.getD i 0)&&decide (x∈bs.getD (ps.getD i 0).toNat [])))):=ay λi=>rfl;have e5:Hh (qu x bs ps 0=0):=ay rfl;obtain⟨m,hm⟩:=Ex bs.length;have b8:ps.length=m:=Oo;rw[<-hm]at hc b9 d2 e0 c8 c0 c1 hW |-;rw[b8]at hW |-;clear a9 c9 hm b8;generalize qu x bs ps=TN at *;go_enter func55,ntmps55;go_upto_region 1 with fail;rw[<-hW];clear hW;go_wp2;go_loopw [5,11] (λs t wr=>∃j:Nat,j<=m/\t=ai j/\s=ai (TN j)/\Bl W wr) (λ_ t _=>m-(intOf t).toNat);exact⟨0,eC,rfl,by rw[e5.o];rfl,eB⟩;obtain⟨j,hj,rfl,rfl,K⟩:=hrel;by_cases c7:j<m
 .have i1:=aV c7;rcases hc.o with h0|⟨b,o,rfl,a5⟩;omega;rcases b9.o with h0|⟨b2,o2,rfl,a6⟩;omega;have e6:=ay a5;obtain⟨u,d4,hu⟩:=a5 j c7;have e1:=qF K d4;have e2:=qF K (a6 j c7);have y0:=qF K c0;have y1:=qF K c1;have V:Hh (∀W',Bl wr W'->_):=ay λW' hb=>ze _ u _ x (hu.below (bt K hb)) (d0 j);obtain⟨a3,I,rfl,-⟩:=hu;have a9:=d2 j c7;have O:=e4 j;have b1:=HT j;have e7:=d3 j;have M:Bl wr wr:=eB;clear a5 a6 d4;generalize (bs.getD j []).length=lj at *;generalize decide (x∈bs.getD j [])=f1 at *;generalize ps.getD j 0=y at *;generalize xI x bs ps j=tp at *;cases f1
  .rw[Bool.false_and]at O;subst O;go_wp2_with fail;go_quiet (first|go_at_call_of 41 (Value.slice a3 lj I);exact Calls.quiet_of_same (V _ (below_drewN M _))|go_at_call_of 41 (Value.slice a3 lj I);exact Calls.quiet_of_same (V.o _ M))
   go_wp2;go_roundw;exact⟨j+1,Oo,Gg,by rw[b1];simp,below_drewN K _⟩;exact Im
  rw[dG]at O;rcases a9 with rfl|⟨e8,f8⟩
  .rw[show(decide ((0:Int)<=-1))=false by decide,Bool.false_and,Bool.not_false]at O;subst O;go_wp2_with fail;go_quiet (first|go_at_call_of 41 (Value.slice a3 lj I);exact Calls.quiet_of_same (V _ (below_drewN M _))|go_at_call_of 41 (Value.slice a3 lj I);exact Calls.quiet_of_same (V.o _ M))
   go_wp2;go_roundw;exact⟨j+1,Oo,Gg,by rw[b1];simp,below_drewN K _⟩;exact Im
  obtain⟨z,rfl⟩:∃z:Nat,y=(z:Int):=⟨y.toNat,Oo⟩;obtain⟨u2,d5,d6⟩:=e6 z Oo;have e3:=qF K d5;rw[show((z:Int)).toNat=z by omega]at O;have b7:Hh (∀W',Bl wr W'->_):=ay λW' hb=>ze _ _ _ x (d6.below (bt K hb)) (d0 z);obtain⟨a4,a7,rfl,-⟩:=d6;clear d5;generalize (bs.getD z []).length=lz at *;generalize decide (x∈bs.getD z [])=f2 at *;rw[fD e8,dG]at O;have hd:decide ((z:Int)<0)=false:=Ss;have f9:(z:Int)<m:=Oo;cases f2
  .subst O;go_wp2_with fail;go_quiet (first|go_at_call_of 41 (Value.slice a3 lj I);exact Calls.quiet_of_same (V _ (below_drewN M _))|go_at_call_of 41 (Value.slice a3 lj I);exact Calls.quiet_of_same (V.o _ M)|go_at_call_of 41 (Value.slice a4 lz a7);exact Calls.quiet_of_same (b7 _ (below_drewN M _))|go_at_call_of 41 (Value.slice a4 lz a7);exact Calls.quiet_of_same (b7.o _ M))
   go_wp2;go_roundw;exact⟨j+1,Oo,Gg,by rw[b1];simp,below_drewN K _⟩;exact Im
  subst O;go_wp2_with fail;go_quiet (first|go_at_call_of 41 (Value.slice a3 lj I);exact Calls.quiet_of_same (V _ (below_drewN M _))|go_at_call_of 41 (Value.slice a3 lj I);exact Calls.quiet_of_same (V.o _ M)|go_at_call_of 41 (Value.slice a4 lz a7);exact Calls.quiet_of_same (b7 _ (below_drewN M _))|go_at_call_of 41 (Value.slice a4 lz a7);exact Calls.quiet_of_same (b7.o _ M))
  go_wp2;go_roundw;exact⟨j+1,Oo,Gg,by rw[b1];simp,below_drewN K _⟩;exact Im
 obtain rfl:j=m:=Oo;have i1:=aY j;have e7:=d3 j;go_wp2;go_ret;refine⟨qJ ?_,bt a8.o K⟩;by_cases ht:TN j=1;rw[ht];rfl;rw[fC ht];simp;omega
theorem qJj{e}(h:w.ownsRow B e s v n xs):∃a cap,v=.slice a n cap:=by
 rcases h.2 with ⟨rfl,I⟩|⟨g,cap,cur,rfl,_⟩;exact⟨none,0,by rw[I]⟩;exact⟨_,cap,rfl⟩
structure RL(W:World)(B:Nat)(v:Value)(vs:LV)(ls:LL):Prop where
 own:W.ownsRow B 24 1 v ls.length vs
 len:vs.length=ls.length
 each:∀i,i<ls.length->W.ownsRow B 3 1 (vs.getD i undef) (ls.getD i []).length ((ls.getD i []).map ai)
section
variable {W W' w3:World} {B:Nat} {v v' u:Value} {vs:LV} {ls:LL} {l:LI} {o:Obj}
theorem RL.below(h:RL W B v vs ls)(hb:Bl W W'):RL W' B v vs ls:=⟨qB h.own hb,h.len,λi hi=>qB (h.each i hi) hb⟩
theorem RL.nil(W:World):RL (W.alloc (.cells #[] 24)) W.1.size (sZ W.1.size 0 0 0) [] []:=⟨oM W _ 0 eA Dd rfl,rfl,λi hi=>by simp at hi⟩
theorem RL.base(h:RL W B v vs ls)(hB:B'<=B):RL W B' v vs ls:=⟨qE h.own hB,h.len,λi hi=>qE (h.each i hi) hB⟩
theorem RL.step(h:RL W B v vs ls)(O:W.ownsRow B 3 1 u l.length (l.map ai))(I:w3.ownsRow B 24 1 v' (ls.length+1) (vs++[u]))(V:(W.alloc o).grownBy w3 v.ownBlock):RL w3 B v' (vs++[u]) (ls++[l]):=by
 have hint:∀{x:Value} {k:Nat} {xs:LV},W.ownsRow B 3 1 x k xs->w3.ownsRow B 3 1 x k xs:=λM=>
  qD M (λg K=>zv V ((M.lt g K).2) (λe=>own_ne h.own (qK M K) Dd e))
 refine⟨by rw[lA];exact I,by rw[lA,lA,h.len];rfl,λi hi=>?_⟩;rw[lA,lS]at hi;by_cases e:i<ls.length;have:=hint (h.each i e);rw[gD,aL (by rw[h.len];exact e),gD (l:=ls++[l]),aL e,<-gD,<-gD];exact this;have e1:(vs++[u]).getD i undef=u:=by rw[gD,bQ (by rw[h.len];omega),show i-vs.length=0 by rw[h.len];omega];rfl
 have e2:(ls++[l]).getD i []=l:=by rw[gD,bQ Oo,show i-ls.length=0 by omega];rfl
 rw[e1,e2];exact hint O
theorem RL.other(h:RL W B v vs ls)(hv:W.ownsRow B 153 3 u n xs)(K:(W.alloc o).grownBy w3 u.ownBlock):RL w3 B v vs ls:=
 ⟨qD h.own (λg I=>zv K ((h.own.lt g I).2) (λe=>own_ne hv (qK h.own I) Dd e)),h.len,λi hi=>
  qD (h.each i hi) (λg I=>zv K (((h.each i hi).lt g I).2) (λe=>own_ne hv (qK (h.each i hi) I) Dd e))⟩
theorem DL.far{ps}(h:DL W B u ps)(hv:W.ownsRow B 24 1 v n xs)(K:(W.alloc o).grownBy w3 v.ownBlock):DL w3 B u ps:=
 ⟨qD h.own (λg I=>zv K ((h.own.lt g I).2) (λe=>own_ne hv (qK h.own I) Dd e)),λq hq=>
  qD (h.each q hq) (λg I=>zv K (((h.each q hq).lt g I).2) (λe=>own_ne hv (qK (h.each q hq) I) Dd e))⟩
theorem RL.get(h:RL W B v vs ls){i}(hi:i<ls.length):∃g cap,v=sZ g 0 ls.length cap/\W.cell? (az g i)=some (vs.getD i undef)/\IS W (vs.getD i undef) (ls.getD i []):=by
 rcases h.own.2 with ⟨-,M⟩|⟨g,cap,cur,rfl,hb',I,O,-,-,K⟩;omega;refine⟨g,cap,rfl,?_,qN (h.each i hi)⟩;have hlen:=h.len;rw[eI I,gD,gE Oo,dI,<-gE (by omega:i<vs.length),<-K,cL Oo,dY]
structure ZR(W:World)(g:Nat):Prop where
 blk:W.1[g]?=some (.cells #[ai 0,ai 0] 36 (0,0))
variable {g:Nat}
theorem ZR.typ(h:ZR W g):∃cur,W.1[g]?=some (.cells cur 36 (0,0)):=⟨_,h.blk⟩
theorem ZR.move(h:ZR W g)(e:W'.1[g]?=W.1[g]?):ZR W' g:=⟨e.trans h.blk⟩
theorem ZR.lt(h:ZR W g):g<W.1.size:=xo h.typ
theorem ZR.below(h:ZR W g)(hb:Bl W W'):ZR W' g:=h.move (hb.block g h.lt)
theorem ZR.alloc(h:ZR W g)o:ZR (W.alloc o) g:=h.move (eL h.lt)
theorem ZR.grow(h:ZR W g)(I:W.ownsRow B 153 3 v n xs)(K:(W.alloc o).grownBy w3 v.ownBlock):ZR w3 g:=h.move (zv K h.lt (own_ne I h.typ Dd))
theorem ZR.grow2(h:ZR W g)(I:W.ownsRow B 24 1 v n xs)(K:(W.alloc o).grownBy w3 v.ownBlock):ZR w3 g:=h.move (zv K h.lt (own_ne I h.typ Dd))
theorem ZR.two(h:ZR W g):Two W g 0 0:=by
 refine⟨?_,?_,?_,?_⟩;rw[eI h.blk];rfl;rw[eI h.blk];rfl;unfold World.frozen?;rw[h.blk];simp;unfold World.frozen?;rw[h.blk];simp
end
def xD(bag:LI)(es:LL)(k:Nat):LL:=((List.range k).filter (uL bag es)).map λi=>qY bag (es.getD i [])
theorem qD0(h:uL bag es k=true):xD bag es (k+1)=xD bag es k++[qY bag (es.getD k [])]:=by
 simp[xD,List.range_succ,List.filter_append,h]
theorem qCN(h:uL bag es k=false):xD bag es (k+1)=xD bag es k:=by
 simp[xD,List.range_succ,List.filter_append,h]
theorem qFH bag es k:(xD bag es k).length<=k:=by
 unfold xD;rw[lM];exact bM (dH _ _) Ss
theorem qD1 bag es:xD bag es es.length=xB bag es:=rfl
def uQ(bag:LI)(es:LL)(i j:Nat):Bool:=decide (0<(qY bag (es.getD i [])).length)&&(List.range j).all λj=>!Q5 bag es i j
theorem qD2 i j:uQ bag es i (j+1)=(uQ bag es i j&&!Q5 bag es i j):=by
 unfold uQ;rw[dQ,List.all_append];simp[Bool.and_assoc]
theorem qBT{e}:(qY bag e).length<=e.length:=dH _ _
end
theorem qH5{W:World}{k x y}:∀j u,[sZ W.1.size 0 1 1,x,y][j]?=some u->((W.alloc (.cells #[ai k] 3)).alloc (.cells #[sZ W.1.size 0 1 1,x,y] 153)).cell? (((az (W.1.size+1) 0):Addr).add j)=some u:=by
 have:=ke (aJ W #[ai k] 3) (sZ W.1.size 0 1 1) x y 153;rw[show(aJ W #[ai k] 3).1.size=W.1.size+1 by simp]at this;exact this
theorem Jp w vb{ve bag es}(hb:IS w vb bag)(h:ISS w ve es)(hl:qS es)(he:zf es=true)(hg:GoodBag es bag)(r8:1<=bag.length):
 aG 71 #[vb,ve] w (.agg #[ai (wdR es bag).num,ai (wdR es bag).den]):=by
 have⟨i0,hi,r9,s3,s4⟩:=aX Tryz.infoInt;have⟨iD,hj,m8,m9,n3⟩:=aX Tryz.infoDem;have⟨iS,hk,s5,s6,s7⟩:=aX Tryz.infoIS;have s8:=kI hg.set;have s9:=jm he;have k6:=qCB he;have e8:=qCG k6 (U7 hg.cov);obtain⟨y,hy,n4⟩:=kT Oo e8;obtain⟨x,hx,px⟩:=hg.best;have f7:Hh (Cov.sm (xB bag es).length y=wdR es bag):=ay (by rw[<-qCF k6 hx hy];exact qA1 hx px);have HY:=ay hy;have k7:=ay n4;have k8:1<=(xB bag es).length:=by
  obtain⟨e,h1,-⟩:=e8 0 Oo;omega
 have f8:(xB bag es).length<=7:=by
  have:=qGT bag es;rw[vP];omega
 have t3:=ay hb;have t4:=ay h;obtain⟨aB,cB,rfl,n5⟩:=hb;obtain⟨aE,cE,rfl,-⟩:=h;have k9:=ay hl.2;have n6:Hh (∀j,j<bag.length->∃b o,aB=some (az b o)/\w.cell? (az b (o+j))=some (ai (bag.getD j 0))):=ay (λj hj=>by
  rcases n5 with h0|⟨b,o,e,hc⟩;omega;exact⟨b,o,e,hc j Oo⟩)
 have l0:Hh (∀j,j<es.length->∃b o u,aE=some (az b o)/\w.cell? (az b (o+j))=some u/\IS w u (es.getD j [])):=ay (λj hj=>t4.o.get rfl Oo);have f9:Hh (∀W u j,Bl w W->j<es.length->IS W u (es.getD j [])->Cl 97 #[u,.slice aB bag.length cB] W λe w'=>∃u,e=.returned u/\w'.ownsRow W.1.size 3 1 u (qY bag (es.getD j [])).length ((qY bag (es.getD j [])).map ai)/\Bl W w'):=
  ay λW u j hW hj hu=>UJ W u hu (k9 j) (t3.o.below hW) Oo
 have l1:=ay (qD1 bag es);have j1:Hh (∀k,uL bag es k=true->xD bag es (k+1)=xD bag es k++[qY bag (es.getD k [])]):=ay λk=>qD0;have g4:Hh (∀k,uL bag es k=false->xD bag es (k+1)=xD bag es k):=ay λk=>qCN;have j2:=ay (qFH bag es);have j3:Hh (∀i,uQ bag es i 0=decide (0<(qY bag (es.getD i [])).length)):=ay λi=>by simp[uQ]
 have j4:Hh (∀i j,uQ bag es i (j+1)=(uQ bag es i j&&!Q5 bag es i j)):=ay qD2;have g5:Hh (∀i,uQ bag es i es.length=uL bag es i):=ay λi=>rfl;have n7:Hh (∀i j,Q5 bag es i j=(decide (j≠i)&&vJ (qY bag (es.getD i [])) (qY bag (es.getD j []))&&(decide ((qY bag (es.getD i [])).length<(qY bag (es.getD j [])).length)||decide (j<i)))):=ay λi j=>rfl;have e0:Hh (∀i,(qY bag (es.getD i [])).length<=1099511627776):=ay λi=>bM (qBT) (k9 i);have j5:Hh (xD bag es 0=[]):=ay rfl;obtain⟨nb,l2⟩:=Ex bag.length;obtain⟨m,hm⟩:=Ex es.length;have l3:=ay l2;have HM:=ay hm;have w8:=ay hg;rw[<-l2]at s8 r8 n6 f9 |-;rw[<-hm]at s9 l0 f9 l1 g5 |-;have hA:Bl w (w.alloc (.cells #[ai 0,ai 0] 36)):=aK;have n8:ZR (w.alloc (.cells #[ai 0,ai 0] 36)) w.1.size:=⟨eO⟩;clear n5 hl l2 hm he k6 e8 hy n4 hx hg;go_enter func71,ntmps71;go_upto_region 1 with fail;generalize w.alloc (.cells #[ai 0,ai 0] 36)=W0 at *;have HA:=ay hA;have HZ:=ay n8;clear hA n8;have i4:Bl w (W0.alloc eD):=HA.o.alloc HA.o.size _;have n9:Hh (Bl w ((W0.alloc eD).alloc (.cells #[] 24))/\ZR ((W0.alloc eD).alloc (.cells #[] 24)) w.1.size/\DL ((W0.alloc eD).alloc (.cells #[] 24)) w.1.size (sZ W0.1.size 0 0 0) []/\RL ((W0.alloc eD).alloc (.cells #[] 24)) w.1.size (sZ (W0.1.size+1) 0 0 0) [] []):=
  ay ⟨i4.alloc i4.size _,(HZ.o.alloc _).alloc _,((DL.nil W0).base HA.o.size).below (aK),by
   have:=(RL.nil (W0.alloc eD)).base i4.size;rw[show(W0.alloc eD).1.size=W0.1.size+1 by simp]at this;exact this⟩
 clear i4;go_wp2;go_loopw [6,24] (λv t wr=>∃(k:Nat) (vp:Value) (vs:LV),k<=m/\t=ai k/\vp=v/\Hh (Bl w wr/\ZR wr w.1.size/\DL wr w.1.size (sZ W0.1.size 0 0 0) []/\RL wr w.1.size vp vs (xD bag es k))) (λ_ t _=>m-(intOf t).toNat);exact⟨0,_,[],eC,rfl,rfl,by rw[j5.o];exact n9⟩;clear n9;obtain⟨k,vp,vs,t5,rfl,rfl,hH⟩:=hrel;generalize wr=W1 at *;have d3:=ay hH.1;have i5:=ay hH.2.1;have i6:=ay hH.2.2.1;have d0:=ay hH.2.2.2;clear hH;by_cases o3:k<m
 .have i1:=aV o3;obtain⟨b,o,u,rfl,e1,hu⟩:=l0 k o3;have c1:=qF d3 e1;have g6:=ay (f9 _ u k d3 o3 (hu.below d3));have d6:=e0 k;obtain⟨a1,o4,rfl,-⟩:=hu;clear e1;generalize (es.getD k []).length=lk at *;go_wp2_with fail;apply g6.o.mono;rintro e W2 ⟨u9,rfl,d4,l4⟩;have d1:=ay l4;have i7:=ay d4;have o5:=ay (bt d3 l4);obtain⟨a9,c9,e9,-⟩:=qN d4;subst e9;clear d4 l4 g6 c1;have hn0:=j3 k;have o6:=ay (j4 k);have o7:=g5 k;have j6:=ay (n7 k);obtain⟨pk,l5⟩:=Ex (qY bag (es.getD k []));have t6:=ay l5;rw[<-l5]at d6 i7 j6 hn0 |-;clear l5;have o8:=ay hn0;have t7:=ay o7;clear hn0 o7;obtain⟨lp,i8⟩:=Ex pk.length;rw[<-i8]at d6 i7 o8 |-;have b7:=ay i8;clear i8;go_wp2;go_loopw [10,37] (λs t wr=>∃j:Nat,j<=m/\t=ai j/\s=.bool (uQ bag es k j)/\Hh (Bl W2 wr)) (λ_ t _=>m-(intOf t).toNat)
  case atStart=>
   refine⟨0,eC,rfl,?_,ay eB⟩;rw[o8.o]
  case round=>
   obtain⟨j,t8,rfl,rfl,hH⟩:=hrel;generalize wr=W3 at *;have g7:=ay hH.o;have b1:=ay (bt o5 hH);clear hH;by_cases hj1:j<m
   .have i2:=aV hj1;obtain⟨b',o',u,e',e1,hu⟩:=l0 j hj1;simp only[oI,Addr.mk.injEq,and_true]at e';obtain⟨rfl,rfl⟩:=e';have c1:=qF b1 e1;have g6:=ay (f9 _ u j b1 hj1 (hu.below b1));have o9:=e0.o j;obtain⟨a1,o4,rfl,-⟩:=hu;have d2:=o6.o j;have a3:=j6.o j;clear e1;generalize (es.getD j []).length=lj at *;generalize uQ bag es k j=s at *;generalize Q5 bag es k j=ov at *;generalize qY bag (es.getD j [])=pj at *;go_wp2_with fail;apply g6.o.mono;rintro e W4 ⟨t9,rfl,d7,l6⟩;have O:=ay (bt g7.o l6);have p1:=qN d7;have h9:=(qN (l:=pk) (by rw[<-b7.o];exact i7.o)).below (bt g7.o l6);have i9:=ay (Qh W4 t9 pk pj h9 (by rw[<-b7.o];exact d6) p1 o9);obtain⟨w9,x4,v6,-⟩:=p1;subst v6;clear d7 l6 h9 g6 c1;rw[<-b7.o]at a3;generalize pj.length=l7 at *;generalize vJ pk pj=sb at *;by_cases hjk:j=k
    .subst hjk;rw[fC Ss,Bool.false_and,Bool.false_and]at a3;subst a3;go_wp2;go_roundw;exact⟨j+1,Oo,Gg,by rw[d2];simp,O⟩;exact Im
    rw[fD hjk,dG]at a3;have x1:((j:Int) != (k:Int))=true:=Sy;cases sb
    .rw[Bool.false_and]at a3;subst a3;go_wp2_with fail;apply i9.o.mono;rintro e w' ⟨rfl,g8⟩;subst w';go_wp2;go_roundw;exact⟨j+1,Oo,Gg,by rw[d2];simp,O⟩;exact Im
    rw[dG]at a3;by_cases p2:lp<l7
    .rw[fD p2,Bool.true_or]at a3;subst a3;have x2:=aV p2;go_wp2_with fail;apply i9.o.mono;rintro e w' ⟨rfl,g8⟩;subst w';go_wp2;go_roundw;exact⟨j+1,Oo,Gg,by rw[d2];simp,O⟩;exact Im
    rw[fC p2,Bool.false_or]at a3;have x2:¬((lp:Int)<l7):=Oo;by_cases p3:j<k
    .rw[fD p3]at a3;subst a3;have x3:=aV p3;go_wp2_with fail;apply i9.o.mono;rintro e w' ⟨rfl,g8⟩;subst w';go_wp2;go_roundw;exact⟨j+1,Oo,Gg,by rw[d2];simp,O⟩;exact Im
    rw[fC p3]at a3;subst a3;have x3:¬((j:Int)<k):=Oo;go_wp2_with fail;apply i9.o.mono;rintro e w' ⟨rfl,g8⟩;subst w';go_wp2;go_roundw;exact⟨j+1,Oo,Gg,by rw[d2];simp,O⟩;exact Im
   obtain rfl:j=m:=Oo;have i2:=aY j;have d8:=j1.o k;have b8:=g4.o k;rw[<-t7.o]at d8 b8;generalize uQ bag es k j=s at *;cases s
   .have HE:=ay (b8 rfl);clear d8 b8;have HF:Hh (Bl w W3/\ZR W3 w.1.size/\DL W3 w.1.size (sZ W0.1.size 0 0 0) []/\RL W3 w.1.size vp vs (xD bag es (k+1))):=ay (by
     have hb:=bt d1.o g7.o;rw[HE.o];exact⟨b1.o,i5.o.below hb,i6.o.below hb,d0.o.below hb⟩)
    go_wp2;go_roundw;exact⟨k+1,vp,vs,Oo,Gg,rfl,HF⟩;exact Im
   have HE:=ay (d8 rfl);clear d8 b8;have hb:=bt d1.o g7.o;have p4:=ay (d0.o.below hb);have v7:=ay (i5.o.below hb);have v8:=ay (i6.o.below hb);have I:=p4.o.own;have w7:=j2.o k;have b9:=b1.o.size;have p5:=ay (qE (qB i7.o g7.o) d3.o.size);clear hb;go_wp2_with (first
    |(at_builtin;refine wpList_append_own _ rfl _ _ 23 rfl w.1.size 24 iS sn 1 24 underlying23 hk s5 s6 s7 rfl Dd _ _ _ rfl (I.alloc _) (az W3.1.size 0) 1 1 [.slice a9 lp c9] rfl rfl ?ka1 ?ka2 ?ka3 ?ka4 ?ka5 ?_)|fail)
   try(case ka1=>exact qH _ _ _)
   case ka2=>first|rfl|(intro u hu;simp at hu;subst hu;rfl)
   case ka3=>unfold maxLen;omega
   case ka4=>omega
   case ka5=>exact bM b9 Ss
   intro v' w5 M K _;have HF:Hh (Bl w w5/\ZR w5 w.1.size/\DL w5 w.1.size (sZ W0.1.size 0 0 0) []/\RL w5 w.1.size v' (vs++[.slice a9 lp c9]) (xD bag es (k+1))):=ay (by
    rw[HE.o];refine⟨zW b9 I b1.o K,v7.o.grow2 I K,v8.o.far I K,p4.o.step (u:=.slice a9 lp c9) ?_ M K⟩;rw[<-t6.o,<-b7.o];exact p5.o)
   clear M K I;go_wp2;go_roundw;exact⟨k+1,v',_,Oo,Gg,rfl,HF⟩;exact Im
 obtain rfl:m=k:=Oo;have i1:=aY m;rw[l1.o]at d0;clear j1 g4 j2 j3 j4 g5 n7 e0 j5 f9 l1;have g9:Hh (∀j,j<(xB bag es).length->((xB bag es).getD j []).length<=1099511627776):=ay λj hj=>by
  rw[Q6 (by rw[<-vP];exact hj)];exact bM (qBT) (k9.o _)
 obtain⟨V,p6⟩:=Ex (xB bag es);rw[<-p6]at d0 f7 HY k7 k8 f8 g9;clear p6;obtain⟨gP,cP,rfl,-,-⟩:=d0.o.get (i:=0) Oo;have l8:Hh (∀W,RL W w.1.size (sZ gP 0 V.length cP) vs V->∀j,j<V.length->W.cell? (az gP j)=some (vs.getD j undef)/\IS W (vs.getD j undef) (V.getD j [])):=ay λW hR j hj=>by
  obtain⟨g,c,e,h1,h2⟩:=hR.get hj;simp only[vI,oI,Addr.mk.injEq,and_true,true_and]at e;obtain⟨rfl,rfl⟩:=e;exact⟨h1,h2⟩
 have l9:Hh (∀k,k<nb->xQ ((qX bag V).take (k+1))=xQ ((qX bag V).take k)++[⟨plN (λi=>decide (bag.getD k 0∈V.getD i [])) V.length,false,1⟩]):=ay λk hk=>qDn (by rw[<-l3.o];exact hk);have p7:Hh (xQ ((qX bag V).take nb)=xQ (qX bag V)):=ay (by rw[l3.o,<-yz bag V,tL]);have p8:Hh (xQ (qX bag V)++yF V.length=QU bag V):=ay rfl;have k0:Hh (∀D∈QU bag V,xG V.length D):=ay (qEZ f8);have h3:=ay (qDV HY.o);have p9:Hh (∀k,k<=nb->(xQ ((qX bag V).take k)).length=k):=ay λk hk=>by
  simp only[xQ,lM,bZ,yz];rw[<-l3.o];omega
 obtain⟨nP,m0⟩:=Ex V.length;have x5:=ay m0;rw[<-m0]at l8 k8 f8 g9 l9 p8 k0 h3 f7 k7 d0 |-;clear m0 HY;have q2:Hh (Bl w W1/\ZR W1 w.1.size/\DL W1 w.1.size (sZ W0.1.size 0 0 0) []/\RL W1 w.1.size (sZ gP 0 nP cP) vs V/\([]:List (Value×Dem)).map Prod.snd=xQ ((qX bag V).take 0)/\([]:List (Value×Dem)).length=0):=ay ⟨d3.o,i5.o,i6.o,d0.o,rfl,rfl⟩;clear d3 i5 i6 d0;go_wp2;go_loopw [5,74] (λv t wr=>∃(k:Nat) (vc:Value) (ps:List (Value×Dem)),k<=nb/\t=ai k/\vc=v/\Hh (Bl w wr/\ZR wr w.1.size/\DL wr w.1.size vc ps/\RL wr w.1.size (sZ gP 0 nP cP) vs V/\ps.map Prod.snd=xQ ((qX bag V).take k)/\ps.length=k)) (λ_ t _=>nb-(intOf t).toNat);exact⟨0,_,[],eC,rfl,rfl,q2⟩;clear q2;obtain⟨k,vc,ps,x7,rfl,rfl,hH⟩:=hrel;generalize wr=W2 at *;have d1:=ay hH.o.1;have m1:=ay hH.o.2.1;have m2:=ay hH.o.2.2.1;have m3:=ay hH.o.2.2.2.1;have m4:=ay hH.o.2.2.2.2.1;have e0:=ay hH.o.2.2.2.2.2;clear hH;by_cases hkb:k<nb
 .have i2:=aV hkb;obtain⟨b,o,rfl,e1⟩:=n6.o k hkb;have c1:=qF d1.o e1;have k3:=ay (l9.o k hkb);obtain⟨p,hp⟩:=Ex (λi=>decide (bag.getD k 0∈V.getD i []):NB);rw[<-hp]at k3;have q3:=ay hp;obtain⟨z,hz⟩:=Ex (bag.getD k 0);rw[<-hz]at c1 q3;clear hp e1 hz;go_upto_region 22 with fail;have c8:=AT.new W2 sn false;have q4:Bl W2 (W2.alloc (.cells #[sn,.bool false,ai 1] 153)):=aK;have HX:Hh (Bl W2 (W2.alloc (.cells #[sn,.bool false,ai 1] 153))/\∃a8,AT (W2.alloc (.cells #[sn,.bool false,ai 1] 153)) W2.1.size a8 false/\(W2.alloc (.cells #[sn,.bool false,ai 1] 153)).ownsRow W2.1.size 3 1 a8 (plc p 0).length ((plc p 0).map ai)):=ay ⟨q4,_,c8,eK⟩;clear c8 q4 c1;generalize W2.alloc (.cells #[sn,.bool false,ai 1] 153)=W3 at *;go_wp2;go_loopw [81] (λt wr=>∃j:Nat,j<=nP/\t=ai j/\Hh (Bl W2 wr/\∃a8,AT wr W2.1.size a8 false/\wr.ownsRow W2.1.size 3 1 a8 (plc p j).length ((plc p j).map ai))) (λt _=>nP-(intOf t).toNat);exact⟨0,eC,rfl,HX⟩;obtain⟨j,t8,rfl,hH⟩:=hrel;clear HX;obtain⟨m5,a8,c8,I⟩:=hH.o;have O:=ay m5;have q5:=ay c8;have d9:=ay I;have d6:=xq p j;have d2:=m5.size;have t0:=c8.arr.cell 0 Oo;have t1:=c8.arr.cell 1 Oo;have t2:=c8.arr.cell 2 Oo;have f0:=c8.arr.free 0 Oo;simp only[f3]at t0 t1 t2;clear hH m5 c8 I;by_cases q6:j<nP
  .have i3:=aV q6;obtain⟨c2,hu⟩:=l8.o wr (m3.o.below O.o) j q6;have KH:=ay (ze wr _ _ z hu (g9.o j q6));have q7:p j=decide (z∈V.getD j []):=by rw[q3.o]
   rw[<-q7]at KH;obtain⟨a7,c7,e7,-⟩:=hu;rw[e7]at c2 KH;clear q7 e7;generalize (V.getD j []).length=lj at *;by_cases m6:p j=true
   .have e1:=ay (Qe p j m6);rw[m6]at KH;have I:=d9.o;go_wp2_with (first
     |(go_at_call 41;apply KH.o.mono;rintro e w' ⟨rfl,g8⟩;subst w')
     |(at_builtin;refine wpList_append_own _ rfl _ _ 24 rfl W2.1.size 3 i0 (ai 0) 1 8 underlying24 hi r9 s3 s4 rfl Dd _ _ _ rfl (I.alloc _) (az wr.1.size 0) 1 1 [ai j] rfl rfl ?kb1 ?kb2 ?kb3 ?kb4 ?kb5 ?_))
    case kb1=>exact qH _ _ _
    case kb2=>intro u hu;simp at hu;subst hu;rfl
    case kb3=>unfold maxLen;omega
    case kb4=>omega
    case kb5=>exact bM d2 Ss
    intro v' w1 M K _;obtain⟨a6,c6,e6⟩:=qJj M;obtain⟨⟨q0,q1⟩,k4,h4⟩:=q5.o.grow I M K;have h5:=zW d2 I O.o K;have HF:Hh (Bl W2 (w1.setCell (az W2.1.size 0) v')/\∃a8,AT (w1.setCell (az W2.1.size 0) v') W2.1.size a8 false/\(w1.setCell (az W2.1.size 0) v').ownsRow W2.1.size 3 1 a8 (plc p (j+1)).length ((plc p (j+1)).map ai)):=ay ⟨h5.setCell eA _,v',k4,by rw[e1.o];simpa using h4⟩;clear M K I k4 h4 h5 t0 t1 t2 f0;subst e6;go_wp2;go_roundw;exact⟨j+1,Oo,Gg,HF⟩;exact Im
   have q8:p j=false:=by simpa using m6
   have e1:=ay (kQ p j q8);rw[q8]at KH;go_wp2_with (go_at_call 41;apply KH.o.mono;rintro e w' ⟨rfl,g8⟩;subst w');go_roundw;exact⟨j+1,Oo,Gg,ay ⟨O.o,a8,q5.o,by rw[e1.o];exact d9.o⟩⟩;exact Im
  obtain rfl:nP=j:=Oo;have i3:=aY nP;obtain⟨a5,c5,e5,-⟩:=qN d9.o;subst e5;have b7:=ay (qH0 p nP);have q9:=ay (bt d1.o O.o);generalize i8:(plc p nP).length=lp at *;have m7:=m2.o.below O.o;have hlen:=e0.o;have I:=m7.own;rw[hlen]at I;have b9:=q9.o.size;go_wp2_with (first
   |(at_builtin;refine wpList_append_own _ rfl _ _ 151 rfl w.1.size 153 iD (.agg #[sn,.bool false,ai 0]) 3 40 underlying151 hj m8 m9 n3 rfl Dd _ _ _ rfl (I.alloc _) (az wr.1.size 0) 1 1 [.slice a5 lp c5,.bool false,ai 1] rfl rfl ?kc1 ?kc2 ?kc3 ?kc4 ?kc5 ?_)|fail)
  case kc2=>first|rfl|exact⟨rfl,rfl,rfl⟩|(intro u hu;simp at hu;rcases hu with rfl|rfl|rfl <;> rfl)
  case kc3=>unfold maxLen;omega
  case kc4=>omega
  case kc5=>exact bM b9 Ss
  intro v' w3 M K _;have hst:=m7.step (p:=(.slice a5 lp c5,⟨plN p nP,false,1⟩)) (by
   have:=qE d9.o d1.o.size;show wr.ownsRow w.1.size 3 1 (.slice a5 lp c5) (plN p nP).length (XX (plN p nP));rw[<-b7.o,<-qE6];exact this) (by rw[hlen];exact M) K
  have h5:=zW b9 I q9.o K;have HF:Hh (Bl w w3/\ZR w3 w.1.size/\DL w3 w.1.size v' (ps++[(.slice a5 lp c5,⟨plN p nP,false,1⟩)])/\RL w3 w.1.size (sZ gP 0 nP cP) vs V/\(ps++[((.slice a5 lp c5:Value),(⟨plN p nP,false,1⟩:Dem))]).map Prod.snd=xQ ((qX bag V).take (k+1))/\(ps++[((.slice a5 lp c5:Value),(⟨plN p nP,false,1⟩:Dem))]).length=k+1):=
   ay ⟨h5,(m1.o.below O.o).grow I K,hst,(m3.o.below O.o).other I K,by rw[mA,m4.o,k3.o];rfl,by rw[lA,hlen];rfl⟩
  clear hst h5 M K I m7 t0 t1 t2 f0;go_wp2;go_roundw;exact⟨k+1,v',_,Oo,Gg,rfl,HF⟩;exact Im
 obtain rfl:nb=k:=Oo;have i2:=aY nb;have r3:Hh (Bl w W2/\ZR W2 w.1.size/\DL W2 w.1.size vc ps/\ps.map Prod.snd=xQ (qX bag V)++yF 0):=ay ⟨d1.o,m1.o,m2.o,by rw[m4.o,p7.o];simp[yF]⟩;clear d1 m1 m2 m3 m4 e0 l9 l8;go_wp2;go_loopw [5,103] (λv t wr=>∃(k:Nat) (vc:Value) (ps:List (Value×Dem)),k<=nP/\t=ai k/\vc=v/\Hh (Bl w wr/\ZR wr w.1.size/\DL wr w.1.size vc ps/\ps.map Prod.snd=xQ (qX bag V)++yF k)) (λ_ t _=>nP-(intOf t).toNat);exact⟨0,_,ps,eC,rfl,rfl,r3⟩;clear r3;obtain⟨k,vc,ps,y0,rfl,rfl,hH⟩:=hrel;generalize wr=W4 at *;have O:=ay hH.o.1;have r4:=ay hH.o.2.1;have h6:=ay hH.o.2.2.1;have j0:=ay hH.o.2.2.2;have b7:Hh (ps.length=nb+k):=ay (by
  have:=congrArg List.length hH.o.2.2.2;rw[lM,lA,<-p7.o,p9.o nb eA]at this;rw[this];simp[yF])
 clear hH;by_cases t5:k<nP
 .have i3:=aV t5;have I:=h6.o.own;have hlen:=b7.o;rw[hlen]at I;have b9:=O.o.size;go_wp2_with (first
   |(at_builtin;refine wpList_append_own _ rfl _ _ 151 rfl w.1.size 153 iD (.agg #[sn,.bool false,ai 0]) 3 40 underlying151 hj m8 m9 n3 rfl Dd _ _ _ rfl ((I.alloc _).alloc _) (az (W4.1.size+1) 0) 1 1 [sZ W4.1.size 0 1 1,.bool false,ai 0] rfl rfl ?kd1 ?kd2 ?kd3 ?kd4 ?kd5 ?_)|fail)
  case kd1=>exact qH5
  case kd2=>first|rfl|exact⟨rfl,rfl,rfl⟩|(intro u hu;simp at hu;rcases hu with rfl|rfl|rfl <;> rfl)
  case kd3=>unfold maxLen;omega
  case kd4=>omega
  case kd5=>exact bM b9 Sy
  intro v' w1 h7 a4 _;have d5:Bl W4 (W4.alloc (.cells #[ai k] 3)):=aK;have r5:(W4.alloc (.cells #[ai k] 3)).ownsRow w.1.size 3 1 (sZ W4.1.size 0 1 1) 1 (XX [k]):=World.ownsRow_lit W4 #[ai k] 1 b9 Dd rfl;have HF:Hh (Bl w w1/\ZR w1 w.1.size/\DL w1 w.1.size v' (ps++[(sZ W4.1.size 0 1 1,⟨[k],false,0⟩)])/\(ps++[((sZ W4.1.size 0 1 1:Value),(⟨[k],false,0⟩:Dem))]).map Prod.snd=xQ (qX bag V)++yF (k+1)):=
   ay ⟨zW (bM b9 d5.size) (qB h6.o.own d5) (bt O.o d5) a4,(r4.o.below d5).grow (qB h6.o.own d5) a4,(h6.o.below d5).step (p:=(sZ W4.1.size 0 1 1,⟨[k],false,0⟩)) r5 (by rw[hlen];exact h7) a4,by rw[mA,j0.o,qB8,dN];rfl⟩
  clear h7 a4 d5 r5 I;go_wp2;go_roundw;exact⟨k+1,v',_,Oo,Gg,rfl,HF⟩;exact Im
 obtain rfl:nP=k:=Oo;have i3:=aY nP;rw[p8.o]at j0;have KC:=ay (qB7 nP false ps y k8 f8 (by rw[b7.o];omega) (by rw[j0.o];exact k0.o) (by rw[j0.o];exact h3.o) vc W4 h6.o.dp);go_wp2_with fail;apply KC.o.mono;rintro e w5 ⟨v5,rfl,r6,r7⟩;have KS:=ay (ZU w5 v5 nP y f8 r6 k7.o);rw[f7.o]at KS;obtain⟨a5,c5,e5,-⟩:=r6;subst e5;have v9:=ay r7;clear r7 KC;go_wp2_with fail;apply KS.o.mono;rintro e w6 ⟨rfl,k5⟩;have h8:=bt v9.o k5;have hT:=(r4.o.below h8).two;have e1:=hT.1;have e2:=hT.2.1;have e3:=hT.2.2.1;have e4:=hT.2.2.2;generalize hq1:(wdR es bag).num=qn at *;generalize hq2:((wdR es bag).den:Int)=qd at *;have w2:=ay hq1;have w4:=ay hq2;clear hq1 hq2;have HQ:=ay (And.intro (bt O.o h8) (hT.set qn qd));clear k5 h8 hT;go_wp2;have r1:=HQ.o.2.1;have r2:=HQ.o.2.2.1;refine aU (v:=.agg #[ai qn,ai qd]) (by simp[results,results71,go_sem,r1,r2]) rfl ⟨by rw[w2.o,w4.o],(HQ.o.1.setCell eA _).setCell eA _⟩
variable {k:Int}{ps hs:LI}{bs es:LL}{w:World}{ws:LP}
structure TRp(W:World)(g:Nat)(x y:Int):Prop where
 typ:∃cur,W.1[g]?=some (.cells cur 36 (0,0))
 two:Two W g x y
section
variable {W W' w3:World} {g B:Nat} {x y:Int} {v:Value} {o:Obj}
theorem TRp.lt(h:TRp W g x y):g<W.1.size:=xo h.typ
theorem TRp.below(h:TRp W g x y)(hb:Bl W W'):TRp W' g x y:=⟨by rw[hb.block g h.lt];exact h.typ,h.two.below h.lt hb⟩
theorem TRp.move(h:TRp W g x y)(e:W'.1[g]?=W.1[g]?):TRp W' g x y:=
 ⟨by rw[e];exact h.typ,(bF e).trans h.two.1,(bF e).trans h.two.2.1,(dA e).trans h.two.2.2.1,(dA e).trans h.two.2.2.2⟩
theorem TRp.new(W:World)x y:TRp (W.alloc (.cells #[ai x,ai y] 36)) W.1.size x y:=
 ⟨⟨_,eO⟩,by rw[eH rfl];rfl,by rw[eH rfl];rfl,eM rfl,eM rfl⟩
theorem TRp.set(h:TRp W g x y)I K:TRp ((W.setCell (az g 0) (ai I)).setCell (az g 1) (ai K)) g I K:=⟨qU (qU h.typ),h.two.set I K⟩
theorem TRp.other{g'}(h:TRp W g x y)(I:g≠g')a b:TRp ((W.setCell (az g' 0) a).setCell (az g' 1) b) g x y:=
 h.move (by rw[eG I,eG I])
theorem TRp.grow{n}{xs:LV}(h:TRp W g x y)(I:some g≠v.ownBlock)(K:(W.alloc o).grownBy w3 v.ownBlock)(_hown:W.ownsRow B 36 2 v n xs):TRp w3 g x y:=h.move (zv K h.lt I)
end
theorem qDr{x y t}:∀j u,[x,y][j]?=some u->(w.alloc (.cells #[x,y] t)).cell? (((az w.1.size 0):Addr).add j)=some u:=by
 intro j u I;match j,I with
 |0,I=>simp at I;subst I;simp[Addr.add]
 |1,I=>simp at I;subst I;simp[Addr.add]
theorem UK{vb ve}(hb:ISS w vb bs)(g7:bs.length<=1000)(h:ISS w ve es)(hl:qS es)(he:zf es=true)(hg:∀i,i<bs.length->GoodBag es (bs.getD i [])/\1<=(bs.getD i []).length):
 Cl 57 #[vb,ve] w λe w'=>∃v,e=.returned (.tuple #[v,.agg #[ai (qw (λi=>wdR es (bs.getD i [])) bs.length).num,ai (qw (λi=>wdR es (bs.getD i [])) bs.length).den]])/\
  w'.ownsRow w.1.size 36 2 v bs.length (rcs (prs bs.length (λi=>wdR es (bs.getD i []))))/\Bl w w':=by
 have⟨iR,hi,g8,g9,h2⟩:=aX Tryz.infoRatS;have h3:=ay h;change Hh _ at hl;obtain⟨aE,cE,rfl,-⟩:=h;have KW:=
  ay λW u i hW hi hu=>Jp W u hu (h3.o.below hW) hl he (hg i hi).1 (hg i hi).2
 have c8:=ay λi hi=>(hg i hi).1.sm he;have c9:Hh (∀k,k<=bs.length->Sm 36000 (qw (λi=>wdR es (bs.getD i [])) k)):=ay λk hk=>YU Oo (λi hi=>c8 i Oo);obtain⟨a,cap,rfl,hc⟩:=hb;have HC:=ay hc;obtain⟨f,hf⟩:=Ex (λi=>wdR _ _);have h4:Hh (∀i,wdR es (bs.getD i [])=f i):=ay λi=>by rw[hf]
 rw[<-hf]at c9 |-;have h5:Hh (∀k,qw f k<f k->qw f (k+1)=f k):=ay λk hk=>by show(if _ then _ else _)=_;rw[fE hk]
 have h6:Hh (∀k,¬qw f k<f k->qw f (k+1)=qw f k):=λk hk=>by show(if _ then _ else _)=_;rw[fF hk]
 have H0:Hh (qw f 0=0):=rfl;have h7:=ay (λk=>XB k f);have h8:Hh (rcs (prs 0 f)=[]):=rfl;obtain⟨n,hn⟩:=Ex bs.length;rw[<-hn]at g7 KW c8 c9 HC |-;clear hc hf hn hg he;generalize qw f=MN at *;have b1:Bl w (aJ w #[ai 0,ai 0] 36):=aK;have M:=b1.alloc b1.size (.cells #[] 36);have d9:=M.alloc M.size (.cells #[ai 0,ai 1] 36);have hA:∀W:World,∀o,Bl W (W.alloc o):=λW o=>aK;have t1:=((TRp.new w 0 0).below (hA _ (.cells #[] 36))).below (hA _ (.cells #[ai 0,ai 1] 36));have t2:=TRp.new ((aJ w #[ai 0,ai 0] 36).alloc (.cells #[] 36)) 0 1;have ow:((aJ w #[ai 0,ai 0] 36).alloc (.cells #[] 36)).ownsRow w.1.size 36 2 (.slice (some ⟨(aJ w #[ai 0,ai 0] 36).1.size,0,none⟩) 0 0) 0 []:=oM _ _ 0 b1.size Dd rfl;have d0:=qB ow (hA _ (.cells #[ai 0,ai 1] 36));have s1:(aJ w #[ai 0,ai 0] 36).1.size=w.1.size+1:=Ss;have s2:((aJ w #[ai 0,ai 0] 36).alloc (.cells #[] 36)).1.size=w.1.size+1+1:=Ss;rw[s1]at d0;rw[s2]at t2;have HX:Hh (Bl w (((aJ w #[ai 0,ai 0] 36).alloc (.cells #[] 36)).alloc (.cells #[ai 0,ai 1] 36))/\TRp (((aJ w #[ai 0,ai 0] 36).alloc (.cells #[] 36)).alloc (.cells #[ai 0,ai 1] 36)) w.1.size 0 0/\TRp (((aJ w #[ai 0,ai 0] 36).alloc (.cells #[] 36)).alloc (.cells #[ai 0,ai 1] 36)) (w.1.size+1+1) 0 1/\
  (((aJ w #[ai 0,ai 0] 36).alloc (.cells #[] 36)).alloc (.cells #[ai 0,ai 1] 36)).ownsRow w.1.size 36 2 (sZ (w.1.size+1) 0 0 0) 0 []):=⟨d9,t1,t2,d0⟩
 clear b1 M d9 hA t1 t2 ow d0 s1 s2;go_enter func57,ntmps57;go_wp2;go_loopw [6,15] (λv t wr=>∃(k:Nat) (vc:Value),k<=n/\t=ai k/\vc=v/\w.1.size+1+1<wr.1.size/\Hh (Bl w wr/\TRp wr w.1.size 0 0/\TRp wr (w.1.size+1+1) (MN k).num (MN k).den/\wr.ownsRow w.1.size 36 2 vc k (rcs (prs k f))/\∀g,vc.ownBlock=some g->g≠w.1.size/\g≠w.1.size+1+1)) (λ_ t _=>n-(intOf t).toNat)
 case atStart=>
  refine⟨0,_,eC,rfl,rfl,Ss,ay ⟨HX.o.1,HX.o.2.1,by rw[H0.o];exact HX.2.2.1,by rw[h8.o];exact HX.2.2.2,λg hg=>?_⟩⟩;have:=X5 hg;omega
 case round=>
  clear HX;obtain⟨k,vc,h9,rfl,rfl,hsz,hH⟩:=hrel;generalize wr=W1 at *;have a4:=ay hH.1;have a3:=ay hH.2.1;have b7:=ay hH.2.2.1;have d3:=ay hH.2.2.2.1;have b8:=ay hH.2.2.2.2;clear hH;by_cases d4:k<n
  .have i1:=aV d4;rcases HC.o with h0|⟨b,o,rfl,a5⟩;omega;obtain⟨u,e1,hu⟩:=a5 k d4;have c1:=qF a4 e1;have d5:=ay (KW _ u k a4 d4 (hu.below a4));have hs1:=c8 k d4;have hs2:=c9 k h9;rw[h4.o k]at d5 hs1;have KL:=ay λW=>kV W hs2 hs1 Dd;have hc1:=h5 k;have d6:=h6 k;have i0:=ay (h7 k);obtain⟨a1,j0,rfl,-⟩:=hu;clear a5 e1 hs1 hs2;generalize (bs.getD k []).length=lk,hx:(f k).num=x,hy:((f k).den:Int)=y,hx0:(MN k).num=x0,hy0:((MN k).den:Int)=y0 at *;have HX:=ay hx;have HY:=ay hy;change Hh _ at hx0 hy0;clear hx hy;go_wp2_with fail;apply d5.o.mono;rintro e W2 ⟨rfl,M⟩;have j2:=ay M;have hA:Bl W2 (W2.alloc (.cells #[ai x,ai y] 36)):=aK;have a6:=ay (TRp.new W2 x y);have c7:=ay (bt M hA);have i5:=ay (qB d3 (bt M hA));have i6:=ay (b7.o.below (bt M hA));have i7:=ay (a3.o.below (bt M hA));have d1:=a6.o.two.1;have d2:=a6.o.two.2.1;have e0:=M.size;clear M hA d5 c1 a3 b7;go_upto_region 7 with fail;obtain⟨G,hG⟩:=Ex W2.1.size;rw[<-hG]at a6 d1 d2 e0 |-;clear hG;generalize W2.alloc (.cells #[ai x,ai y] 36)=W3 at *;have O:=i5.o;have e7:=(bt a4 c7).size;have j1:=a6.o.lt;go_wp2_with (first
    |(at_builtin;refine wpList_append_lies _ rfl _ _ 35 rfl _ 36 _ (.agg #[ai 0,ai 0]) 2 16 underlying35 hi g8 g9 h2 rfl Dd _ _ _ rfl (O.alloc _) (az W3.1.size 0) 1 1 [ai x,ai y] rfl rfl ?ka1 ?ka2 Dd ?ka3 ?ka4 ?ka5 _ rfl ?_)|fail)
   case ka1=>exact qDr
   case ka2=>intro u hu;simp at hu;rcases hu with rfl|rfl <;> rfl
   case ka3=>unfold maxLen;omega
   case ka4=>omega
   case ka5=>exact bM e7 Ss
   intro g cp w4 a7 K e8 j3;have e9:some G≠vc.ownBlock:=λe=>by
    have:=(d3.o.lt G e.symm).2;omega
   have f7:=i7.o.grow (λe=>(b8.o _ e.symm).1 rfl) K O;have b9:=i6.o.grow (λe=>(b8.o _ e.symm).2 rfl) K O;have hg4:=a6.o.grow e9 K O;have f8:=zW e7 O (bt a4.o c7.o) K;have hs4:W3.1.size<w4.1.size:=by
    have:=K.size;simp at this;omega
   have d7:Hh (∀g',(sZ g 0 (k+1) cp).ownBlock=some g'->g'≠w.1.size/\g'≠w.1.size+1+1):=λg' e=>by
    have e2:=X5 e;subst e2;rcases e8 with h1|h1;exact b8.o _ h1;omega
   have f9:Hh (w4.ownsRow w.1.size 36 2 (sZ g 0 (k+1) cp) (k+1) (rcs (prs (k+1) f))):=(by rw[i0.o];exact a7);have g5:=ay b9;have i8:=ay hg4;change Hh _ at f7 f8;have y1:=b9.two.1;have y2:=b9.two.2.1;have y3:=hg4.two.1;have y4:=hg4.two.2.1;clear b9 hg4 a7 K e8 O e9 d1 d2;by_cases V:MN k<f k
   .have HE:=ay (hc1 V);have a8:=ay (KL.o w4);rw[fD V]at a8;clear hc1 d6 KL V;go_wp2_with fail;apply a8.o.mn;intro w5 I;have q1:=g5.o.below I;have q2:=i8.o.below I;have q3:=f7.o.below I;have e1:=q1.two.1;have e2:=q1.two.2.1;have e3:=q1.two.2.2.1;have e4:=q1.two.2.2.2;have e5:=q2.two.1;have e6:=q2.two.2.1;have hs5:=I.size;have HF:Hh (Bl w ((sC w5 (w.1.size+1+1) 0 (ai x)).setCell (az (w.1.size+1+1) 1) (ai y))/\TRp ((sC w5 (w.1.size+1+1) 0 (ai x)).setCell (az (w.1.size+1+1) 1) (ai y)) w.1.size 0 0/\TRp ((sC w5 (w.1.size+1+1) 0 (ai x)).setCell (az (w.1.size+1+1) 1) (ai y)) (w.1.size+1+1) (MN (k+1)).num (MN (k+1)).den/\
     ((sC w5 (w.1.size+1+1) 0 (ai x)).setCell (az (w.1.size+1+1) 1) (ai y)).ownsRow w.1.size 36 2 (sZ g 0 (k+1) cp) (k+1) (rcs (prs (k+1) f))/\∀g',(sZ g 0 (k+1) cp).ownBlock=some g'->g'≠w.1.size/\g'≠w.1.size+1+1):=(by
     refine⟨((bt f8.o I).setCell (by show w.1.size<=w.1.size+1+1;omega) _).setCell (by show w.1.size<=w.1.size+1+1;omega) _,q3.other Oo _ _,by rw[HE.o,HX.o,HY.o];exact q1.set _ _,?_,d7.o⟩;exact qD (qB f9.o I) (λg' d8=>by
      have a9:=(d7.o g' d8).2;rw[eG a9,eG a9]))
    clear I q1 q2 q3;go_wp2;go_roundw;exact⟨k+1,_,Oo,Gg,rfl,by simp[World.setCell];omega,HF⟩;exact Im
   have HE:=ay (d6 V);have a8:=ay (KL.o w4);rw[fC V]at a8;clear hc1 d6 KL V;go_wp2_with fail;apply a8.o.mn;intro w5 I;have hs5:=I.size;have HF:Hh (Bl w w5/\TRp w5 w.1.size 0 0/\TRp w5 (w.1.size+1+1) (MN (k+1)).num (MN (k+1)).den/\
    w5.ownsRow w.1.size 36 2 (sZ g 0 (k+1) cp) (k+1) (rcs (prs (k+1) f))/\∀g',(sZ g 0 (k+1) cp).ownBlock=some g'->g'≠w.1.size/\g'≠w.1.size+1+1):=ay
    ⟨bt f8.o I,f7.o.below I,by rw[HE.o,hx0.o,hy0.o];exact g5.o.below I,qB f9.o I,d7.o⟩
   clear I;go_wp2;go_roundw;exact⟨k+1,_,Oo,Gg,rfl,Oo,HF⟩;exact Im
  obtain rfl:k=n:=Oo;have i1:=aY k;have c1:=a3.o.two.1;have c2:=a3.o.two.2.1;have c3:=a3.o.two.2.2.1;have c4:=a3.o.two.2.2.2;have e1:=b7.o.two.1;have e2:=b7.o.two.2.1;generalize hx:(MN k).num=x,hy:((MN k).den:Int)=y at *;have HX:=ay hx;have HY:=ay hy;clear hx hy;have HF:Hh (∀W',W'=((sC W1 w.1.size 0 (ai x)).setCell (az w.1.size 1) (ai y)).drew->aC W' w.1.size 0 (ai x)/\aC W' w.1.size 1 (ai y)/\W'.ownsRow w.1.size 36 2 vc k (rcs (prs k f))/\Bl w W'):=λW' e=>by
   have q:=a3.o.set x y;have i9:Bl w ((sC W1 w.1.size 0 (ai x)).setCell (az w.1.size 1) (ai y)):=(a4.o.setCell eA _).setCell eA _;have hb:=i9.drew;have hh:∀b:Nat,W'.1[b]?=((sC W1 w.1.size 0 (ai x)).setCell (az w.1.size 1) (ai y)).1[b]?:=λb=>by rw[e];rfl
   refine⟨(bF (w:=(sC W1 w.1.size 0 (ai x)).setCell (az w.1.size 1) (ai y)) (a:=az w.1.size 0) (hh w.1.size)).trans q.two.1,(bF (w:=(sC W1 w.1.size 0 (ai x)).setCell (az w.1.size 1) (ai y)) (a:=az w.1.size 1) (hh w.1.size)).trans q.two.2.1,qD d3.o (λg' d8=>?_),by rw[e];exact hb⟩;have a9:=(b8.o g' d8).1;rw[hh,eG a9,eG a9]
  go_wp2_with fail;go_region
  obtain⟨r1,r2,r3,r4⟩:=HF.o _ rfl;go_wp2;refine aU (v:=.tuple #[vc,.agg #[ai x,ai y]]) (by simp[results,results57,go_sem,r1,r2]) rfl ⟨_,by rw[HX.o,HY.o],r3,r4⟩
def bpB(k:Int)(bs:LL)(ps:LI)(i:Nat):Bool:=xU k (bs.getD i [])&&vH bs.length ps i
theorem qE7{x}:
 zX k es bs ps hs ws x=(xN k es&&decide (bs.length<=12)&&decide (ps.length=bs.length)&&decide (hs.length=es.length)&&decide (ws.length=bs.length)&&(List.range bs.length).all (bpB k bs ps)&&uK k bs ps&&
  ((List.range es.length).all λi=>zm (hs.getD i 0) (es.getD i []) bs)&&(List.range bs.length).all (xr es bs ws)&&decide (x=rp (qw (λi=>wdR es (bs.getD i [])) bs.length))):=by
 unfold zX yf xH yp Zv;by_cases I:ps.length=bs.length
 .have O:decide ((ps.length:Int)=(bs.length:Int))=true:=fD Oo;have V:(List.range bs.length).all (bpB k bs ps)=(bs.all (xU k)&&(List.range ps.length).all (vH bs.length ps)):=by
   rw[I];have:bs.all (xU k)=(List.range bs.length).all (λi=>xU k (bs.getD i [])):=by
    cases hc:bs.all (xU k)
    rw[List.all_eq_false]at hc;have⟨b,hb,K⟩:=hc;have⟨j,M,e⟩:=gO hb;exact(qe M (by rw[gD,gE M,dI,e];simpa using K)).symm;rw[aT]at hc;exact(qh (λi hi=>hc _ (by rw[gD,gE hi];exact gM hi))).symm
   rw[this];generalize (List.range bs.length)=R;induction R with
   |nil=>rfl
   |cons r R ih=>
    simp only[List.all_cons,ih,bpB];cases xU k (bs.getD r []) <;> cases vH bs.length ps r <;> simp
  rw[O,fD I,V];cases xN k es <;> cases decide (bs.length<=12) <;> cases bs.all (xU k) <;> cases (List.range ps.length).all (vH bs.length ps) <;> cases uK k bs ps <;> cases decide (hs.length=es.length) <;> cases decide (ws.length=bs.length) <;> simp[Bool.and_assoc]
 rw[fC (by omega:¬(ps.length:Int)=(bs.length:Int)),fC I];simp
theorem qGO(hl:ps.length=bs.length)(h:∀i,i<bs.length->bpB k bs ps i=true):Q4 ps bs.length:=by
 refine⟨hl,λi hi=>?_⟩;have:=h i hi;unfold bpB vH at this;rw[bV,Bool.or_eq_true,bV,dE,dE,dE]at this;omega
theorem qH1(I:xN k es=true)(h:∀i,i<bs.length->bpB k bs ps i=true):∀i,i<bs.length->GoodBag es (bs.getD i [])/\1<=(bs.getD i []).length:=by
 intro i hi;have:=h i hi;unfold bpB xU at this;rw[bV,bV,bV]at this;exact⟨qCx I this.1.1.2 this.1.2,by have:=this.1.1.1;simp at this;exact List.length_pos_iff.2 (by simpa using this)⟩
theorem Jn w{vb vp vh vw}ve k x0 y0(he:ISS w ve es)(hle:qS es)(hb:ISS w vb bs)(hl:qS bs)
 (hp:IS w vp ps) (hh:IS w vh hs) (h8:IR w vw ws):
 aG 38 #[ai k,ve,.agg #[vb,vp,vh,vw,ai x0,ai y0]] w (.bool (zX k es bs ps hs ws (x0,y0))):=by
 have K:Hh (Bl w (w.alloc (.cells #[vb,vp,vh,vw,ai x0,ai y0] 38))):=aK;have c0:(w.alloc (.cells #[vb,vp,vh,vw,ai x0,ai y0] 38)).cell? (az w.1.size 0)=some vb:=by rw[eH rfl];rfl
 have c1:(w.alloc (.cells #[vb,vp,vh,vw,ai x0,ai y0] 38)).cell? (az w.1.size 1)=some vp:=by rw[eH rfl];rfl
 have c2:(w.alloc (.cells #[vb,vp,vh,vw,ai x0,ai y0] 38)).cell? (az w.1.size 2)=some vh:=by rw[eH rfl];rfl
 have c3:(w.alloc (.cells #[vb,vp,vh,vw,ai x0,ai y0] 38)).cell? (az w.1.size 3)=some vw:=by rw[eH rfl];rfl
 have c4:(w.alloc (.cells #[vb,vp,vh,vw,ai x0,ai y0] 38)).cell? (az w.1.size 4)=some (ai x0):=by rw[eH rfl];rfl
 have c5:(w.alloc (.cells #[vb,vp,vh,vw,ai x0,ai y0] 38)).cell? (az w.1.size 5)=some (ai y0):=by rw[eH rfl];rfl
 have⟨W,hW⟩:=Ex (w.alloc (.cells #[vb,vp,vh,vw,ai x0,ai y0] 38));rw[<-hW]at K c0 c1 c2 c3 c4 c5;have HE:=ay (he.below K);have a8:=ay (hb.below K);have HP:=ay (hp.below K);have HH:=ay (hh.below K);have f7:=ay (h8.below' K);have HL:=ay hl;have d5:=ay hle;obtain⟨ae,h9,rfl,-⟩:=he;obtain⟨ab,e7,rfl,-⟩:=hb;obtain⟨ap,i5,rfl,-⟩:=hp;obtain⟨ah,i6,rfl,-⟩:=hh;obtain⟨aw,i7,rfl,-⟩:=h8;have l6:=hl.1;have l7:=hle.1;have⟨res,b9⟩:=Ex (zX k es bs ps hs ws (x0,y0));rw[<-b9];rw[qE7]at b9;have HR:=ay b9;clear b9 hl hle;have K1:=ay (VO W k HE d5);cases hpat:xN k es
 .obtain rfl:res=false:=by rw[HR.o,hpat];simp
  rw[hpat]at K1;go_enter func38,ntmps38;go_upto_region 1 with fail;rw[<-hW];clear hW;go_wp2_with fail;apply K1.o.mn;intro w1 hw1;subst w1;go_wp2;go_ret;exact⟨rfl,K⟩
 rw[hpat]at K1 HR;rw[dG]at HR;have d6:=xA hpat;have l8:=d6.1;have i8:=d6.2.1;have l9:=ay d6.2.2;have i9:=ay hpat;clear hpat d6;by_cases h12:bs.length<=12
 case neg=>
  obtain rfl:res=false:=by rw[HR.o,fC h12];simp
  have i1:(12:Int)<(bs.length:Int):=Oo;clear a8 HR;generalize bs.length=n at *;go_enter func38,ntmps38;go_upto_region 1 with fail;rw[<-hW];clear hW;go_wp2_with fail;apply K1.o.mn;intro w1 hw1;subst w1;go_wp2;go_ret;exact⟨rfl,K⟩
 have d12:¬((12:Int)<(bs.length:Int)):=Oo;by_cases a7:ps.length=bs.length
 case neg=>
  obtain rfl:res=false:=by rw[HR.o,fC a7];simp
  have i1:((ps.length:Int) != (bs.length:Int))=true:=Sy;clear a8 HP HR;generalize bs.length=n,ps.length=n1 at *;go_enter func38,ntmps38;go_upto_region 1 with fail;rw[<-hW];clear hW;go_wp2_with fail;apply K1.o.mn;intro w1 hw1;subst w1;go_wp2;go_ret;exact⟨rfl,K⟩
 by_cases c9:hs.length=es.length
 case neg=>
  obtain rfl:res=false:=by rw[HR.o,fC c9];simp
  have i1:((hs.length:Int) != (es.length:Int))=true:=Sy;have i0:((bs.length:Int) != (bs.length:Int))=false:=Ss;rw[a7]at hW c1 |-;clear a8 HP HH HR a7;generalize bs.length=n,hs.length=n2 at *;go_enter func38,ntmps38;go_upto_region 1 with fail;rw[<-hW];clear hW;go_wp2_with fail;apply K1.o.mn;intro w1 hw1;subst w1;go_wp2;go_ret;exact⟨rfl,K⟩
 by_cases d7:ws.length=bs.length
 case neg=>
  obtain rfl:res=false:=by rw[HR.o,fC d7];simp
  have i1:((ws.length:Int) != (bs.length:Int))=true:=Sy;have i0:((bs.length:Int) != (bs.length:Int))=false:=Ss;have i2:((es.length:Int) != (es.length:Int))=false:=Ss;rw[a7]at hW c1 |-;rw[c9]at hW c2 |-;clear a8 HP HH f7 HR a7 c9;generalize bs.length=n,ws.length=n3 at *;go_enter func38,ntmps38;go_upto_region 1 with fail;rw[<-hW];clear hW;go_wp2_with fail;apply K1.o.mono;rintro e w1 ⟨rfl,hw1⟩;subst w1;go_wp2;go_ret;exact⟨rfl,K⟩
 rw[fD h12,fD a7,fD c9,fD d7]at HR;simp only[dG]at HR;have F1:Hh (∀i,i<bs.length->bpB k bs ps i=false->res=false):=λi hi e=>by rw[HR.o,qe hi e];simp
 have F2:Hh (∀v:Nat,v<k.toNat->decide (qu (v:Int) bs ps bs.length=1)=false->res=false):=λv hv e=>by
  rw[HR.o,show uK k bs ps=false from qe hv e];simp
 have F3:Hh (∀i,i<es.length->zm (hs.getD i 0) (es.getD i []) bs=false->res=false):=λi hi e=>by
  rw[HR.o,qe (p:=λi=>zm (hs.getD i 0) (es.getD i []) bs) hi e];simp
 have F4:Hh (∀i,i<bs.length->xr es bs ws i=false->res=false):=λi hi e=>by rw[HR.o,qe hi e];simp
 have F5:Hh ((∀i,i<bs.length->bpB k bs ps i=true)->(∀v:Nat,v<k.toNat->decide (qu (v:Int) bs ps bs.length=1)=true)->(∀i,i<es.length->zm (hs.getD i 0) (es.getD i []) bs=true)->(∀i,i<bs.length->xr es bs ws i=true)->res=decide ((x0,y0)=rp (qw (λi=>wdR es (bs.getD i [])) bs.length))):=λh1 h2 h3 h4=>by
  rw[HR.o,qh h1,show uK k bs ps=true from qh h2,qh (p:=λi=>zm (hs.getD i 0) (es.getD i []) bs) h3,qh h4];simp
 have f8:Hh ((∀i,i<bs.length->bpB k bs ps i=true)->Q4 ps bs.length):=qGO a7;have j0:Hh ((∀i,i<bs.length->bpB k bs ps i=true)->∀i,i<bs.length->GoodBag es (bs.getD i [])/\1<=(bs.getD i []).length):=qH1 i9;have f9:Hh (∀i,bpB k bs ps i=(!decide ((bs.getD i []).length=0)&&xJ k (bs.getD i [])&&(decide (ps.getD i 0=-1)||(decide ((i:Int)<ps.getD i 0)&&decide (ps.getD i 0<(bs.length:Int)))))):=λi=>by
  unfold bpB xU vH;rw[qA3 i8,Bool.and_assoc (!decide _)]
 have g4:Hh (∀i,zm (hs.getD i 0) (es.getD i []) bs=if (es.getD i []).length=0 then decide (hs.getD i 0=-1) else decide (0<=hs.getD i 0)&&decide (hs.getD i 0<(bs.length:Int))&&vJ (es.getD i []) (bs.getD (hs.getD i 0).toNat [])):=λi=>rfl;have m0:Hh (∀i,xr es bs ws i=decide (ws.getD i (0,0)=rp (wdR es (bs.getD i [])))):=λ_=>rfl;clear HR;have⟨_,_,j1,g5⟩:=a8.o;have⟨_,_,j2,d8⟩:=HP.o;have⟨_,_,j3,d9⟩:=HH.o;have⟨_,_,j4,e0⟩:=f7.o;simp only[vI,true_and]at j1 j2 j3 j4;obtain⟨rfl,rfl⟩:=j1;obtain⟨rfl,rfl⟩:=j2;obtain⟨rfl,rfl⟩:=j3;obtain⟨rfl,rfl⟩:=j4;have⟨_,_,j5,g6⟩:=HE.o;simp only[vI,true_and]at j5;obtain⟨rfl,rfl⟩:=j5;have KT:Hh (∀W' v,Bl W W'->Q4 ps bs.length->Cl 55 #[.agg #[.slice ab bs.length e7,.slice ap ps.length i5,.slice ah hs.length i6,.slice aw ws.length i7,ai x0,ai y0],ai v] W' λe w'=>e=.returned (.bool (decide (qu v bs ps bs.length=1)))/\Bl W' w'):=
  ay λW' v hb m6=>YW v (a8.o.below hb) HL h12 (HP.o.below hb) m6
 have g7:Hh (∀W',Bl W W'->(∀i,i<bs.length->bpB k bs ps i=true)->_):=λW' hb h1=>UK (a8.o.below hb) Oo (HE.o.below hb) d5 l9 (j0 h1);rw[a7]at c1 KT d8 hW |-;rw[c9]at c2 KT d9 hW |-;rw[d7]at c3 KT e0 hW |-;have⟨n,hn⟩:=Ex bs.length;have⟨m,hm⟩:=Ex es.length;have HN:=ay hn;rw[<-hn]at c0 c1 c3 KT g7 g5 d8 e0 hW F1 F2 F4 F5 f8 j0 f9 g4 h12 d12 l6 |-;rw[<-hm]at c2 KT g7 d9 g6 hW F3 F5 l7 K1 |-;have j6:=ay g5;have m7:=ay d8;have m8:=ay d9;have m9:=ay e0;have n4:=ay g6;have d1:((n:Int) != (n:Int))=false:=Ss;have d2:((m:Int) != (m:Int))=false:=Ss;have g8:=ay HL.2;have n5:=ay d5.2;clear g5 d8 d9 e0 g6 hn hm a7 c9 d7 a8 HP HH f7 HE HL d5;go_enter func38,ntmps38;go_upto_region 1 with fail;rw[<-hW];clear hW;go_wp2_with fail;apply K1.o.mono;rintro e w1 ⟨rfl,hw1⟩;subst w1;clear K1;go_wp2;go_loop [52] (λt=>∃j:Nat,j<=n/\t=ai j/\Hh (∀i,i<j->bpB k bs ps i=true)) (λt=>n-(intOf t).toNat);exact⟨0,eC,rfl,ay (λi hi=>Oo)⟩;obtain⟨j,hj,rfl,O⟩:=hrel;by_cases a9:j<n
 .have i1:=aV a9;rcases j6.o with h0|⟨b,o,rfl,V⟩;omega;rcases m7.o with h0|⟨b2,o2,rfl,M⟩;omega;have⟨u,e1,hu⟩:=V j a9;have e2:=M j a9;have HK:=ay (Qg W k l8 i8 u hu (g8 j));obtain⟨a1,k0,rfl,-⟩:=hu;have fin:=F1 j a9;have nxt:bpB k bs ps j=true->Hh (∀i,i<j+1->bpB k bs ps i=true):=λe i hi=>by
   by_cases e2:i=j;rw[e2];exact e;exact O i Oo
  have a5:=f9 j;have p5:=g8 j;clear V M O;generalize bpB k bs ps j=y at *;generalize (bs.getD j []).length=lj at *;generalize xJ k (bs.getD j [])=y2 at *;generalize ps.getD j 0=x at *;by_cases d0:lj=0
  .subst d0;obtain rfl:=fin (by rw[a5];rfl);clear nxt a5;go_wp2;go_ret;exact⟨rfl,K⟩
  have n6:¬((lj:Int)=0):=Oo;rw[fC d0,Bool.not_false,dG]at a5;cases y2
  .obtain rfl:=fin (by rw[a5];rfl);clear nxt a5;go_wp2_with fail;apply HK.o.mono;rintro e w1 ⟨rfl,hw1⟩;subst w1;go_wp2;go_ret;exact⟨rfl,K⟩
  rw[dG]at a5;by_cases b7:x=-1
  .subst b7;have hf:=nxt (by rw[a5];rfl);clear fin nxt a5;go_wp2_with fail;apply HK.o.mono;rintro e w1 ⟨rfl,hw1⟩;subst w1;go_wp2;go_round;exact⟨j+1,Oo,Gg,hf⟩;exact Im
  have x1:(x != -1)=true:=by simpa using b7
  rw[fC b7,Bool.false_or]at a5;by_cases h2:x<=(j:Int)
  .obtain rfl:=fin (by rw[a5,fC Oo];rfl);clear nxt a5;go_wp2_with fail;apply HK.o.mono;rintro e w1 ⟨rfl,hw1⟩;subst w1;go_wp2_with fail;apply (vL Oo).mono;rintro e w1 ⟨rfl,hw1⟩;subst w1;go_wp2;go_ret;exact⟨rfl,K⟩
  rw[fD (by omega:(j:Int)<x),dG]at a5;by_cases h3:(n:Int)<=x
  .obtain rfl:=fin (by rw[a5,fC Oo]);clear nxt a5;go_wp2_with fail;apply HK.o.mono;rintro e w1 ⟨rfl,hw1⟩;subst w1;go_wp2_with fail;apply (vM Oo Oo).mono;rintro e w1 ⟨rfl,hw1⟩;subst w1;go_wp2;go_ret;exact⟨rfl,K⟩
  have hf:=nxt (by rw[a5,fD Oo]);clear fin nxt a5;go_wp2_with fail;apply HK.o.mono;rintro e w1 ⟨rfl,hw1⟩;subst w1;go_wp2_with fail;apply (zP Oo Oo).mono;rintro e w1 ⟨rfl,hw1⟩;subst w1;go_wp2;go_round;exact⟨j+1,Oo,Gg,hf⟩;exact Im
 obtain rfl:n=j:=Oo;have i1:=aY n;have H1:=ay O.o;have n7:=ay (f8 O);clear O F1 f9 f8;have⟨q,hq⟩:=Ex k.toNat;have n8:k=(q:Int):=Oo;rw[<-hq]at F2 F5;have p6:=ay n8;clear hq;go_wp2;go_loopw [10] (λt wr=>∃v:Nat,v<=q/\t=ai v/\Bl W wr/\Hh (∀i:Nat,i<v->decide (qu (i:Int) bs ps n=1)=true)) (λt _=>q-(intOf t).toNat);exact⟨0,eC,rfl,eB,ay (λi hi=>Oo)⟩;obtain⟨v,hv,rfl,I,O⟩:=hrel;by_cases n9:v<q
 .have i2:(v:Int)<k:=Oo;have z0:=qF I c0;have z1:=qF I c1;have z2:=qF I c2;have z3:=qF I c3;have z4:=qF I c4;have z5:=qF I c5;have k5:=ay (KT _ v I n7);have fin:=F2 v n9;have nxt:decide (qu (v:Int) bs ps n=1)=true->Hh (∀i:Nat,i<v+1->decide (qu (i:Int) bs ps n=1)=true):=λe i hi=>by
   by_cases e2:i=v;rw[e2];exact e;exact O i Oo
  clear O;generalize decide (qu (v:Int) bs ps n=1)=y at *;cases y
  .obtain rfl:=fin rfl;clear nxt;go_wp2_with fail;apply k5.o.mono;rintro e w1 ⟨rfl,g9⟩;go_wp2;go_ret;exact⟨rfl,bt K (bt I g9)⟩
  have hf:=nxt rfl;clear fin nxt;go_wp2_with fail;apply k5.o.mono;rintro e w1 ⟨rfl,g9⟩;go_wp2;go_roundw;exact⟨v+1,Oo,Gg,bt I g9,hf⟩;exact Im
 obtain rfl:q=v:=Oo;have i2:¬((q:Int)<k):=Oo;have H2:=ay O.o;generalize wr=W2 at *;have o4:=ay I;clear O I F2 KT;go_wp2;go_loopw [97] (λt wr=>∃j:Nat,j<=m/\t=ai j/\Bl W2 wr/\Hh (∀i,i<j->zm (hs.getD i 0) (es.getD i []) bs=true)) (λt _=>m-(intOf t).toNat);exact⟨0,eC,rfl,eB,ay (λi hi=>Oo)⟩;obtain⟨j,hj,rfl,c7,O⟩:=hrel;have I:=bt o4 c7;by_cases h5:j<m
 .have i3:=aV h5;rcases n4.o with h0|⟨b,o,rfl,V⟩;omega;rcases m8.o with h0|⟨b2,o2,rfl,M⟩;omega;have⟨u,k6,hu⟩:=V j h5;have e1:=qF I k6;have e2:=qF I (M j h5);have z0:=qF I c0;have z2:=qF I c2;have HU:=ay (hu.below I);have k7:=n5 j;obtain⟨a1,k0,rfl,-⟩:=hu;have fin:=F3 j h5;have nxt:zm (hs.getD j 0) (es.getD j []) bs=true->Hh (∀i,i<j+1->zm (hs.getD i 0) (es.getD i []) bs=true):=λe i hi=>by
   by_cases e2:i=j;rw[e2];exact e;exact O i Oo
  have a6:=g4 j;clear V M O k6;have e5:Bl wr wr:=eB;generalize zm (hs.getD j 0) (es.getD j []) bs=y at *;generalize hs.getD j 0=x at *;generalize es.getD j []=ej at *;have⟨lj,d3⟩:=Ex ej.length;rw[<-d3]at a6 e1 HU k7;by_cases d0:lj=0
  .rw[fE d0]at a6;subst d0;clear d3;by_cases b7:x=-1
   .subst b7;have hf:=nxt (by rw[a6];rfl);clear fin nxt a6;go_wp2;go_roundw;exact⟨j+1,Oo,Gg,c7,hf⟩;exact Im
   obtain rfl:=fin (by rw[a6];exact fC b7);have x1:(x != -1)=true:=by simpa using b7
   clear nxt a6;go_wp2;go_ret;exact⟨rfl,bt K I⟩
  have n6:¬((lj:Int)=0):=Oo;rw[fF d0]at a6;by_cases k8:0<=x
  case neg=>
   obtain rfl:=fin (by rw[a6,fC k8];rfl);clear nxt a6 d3;go_wp2_with fail;go_quiet (first|go_at_call 40;exact Calls.quiet_of_same (vL Oo))
   go_wp2;go_ret;exact⟨rfl,bt K (below_drewN I _)⟩
  by_cases k9:x<(n:Int)
  case neg=>
   obtain rfl:=fin (by rw[a6,fC k9];simp);clear nxt a6 d3;go_wp2_with fail;go_quiet (first|go_at_call 40;exact Calls.quiet_of_same (vM Oo Oo))
   go_wp2;go_ret;exact⟨rfl,bt K (below_drewN I _)⟩
  rw[fD k8,fD k9,dG,dG]at a6;obtain⟨z,rfl⟩:∃z:Nat,x=(z:Int):=⟨x.toNat,Oo⟩;rw[show((z:Int)).toNat=z by omega]at a6;rcases j6.o with h0|⟨b3,o3,rfl,c8⟩;omega;have⟨u3,l0,l1⟩:=c8 z Oo;have e3:=qF I l0;have e6:=ay λW' hb=>
   Qh W' _ _ _ (HU.o.below hb) (by rw[<-d3];exact k7) ((l1.below I).below hb) (g8 z)
  obtain⟨a3,p3,rfl,-⟩:=l1;clear c8 l0 HU d3;generalize (bs.getD z []).length=lz at *;generalize vJ ej (bs.getD z [])=sb at *;subst a6;cases y
  .obtain rfl:=fin rfl;clear nxt;go_wp2_with fail;go_quiet (first|go_at_call 40;exact Calls.quiet_of_same (zP Oo Oo)|go_at_call 56;exact Calls.quiet_of_same (e6 _ (below_drewN e5 _))|go_at_call 56;exact Calls.quiet_of_same (e6.o _ e5))
   go_wp2;go_ret;exact⟨rfl,bt K (below_drewN I _)⟩
  have hf:=nxt rfl;clear fin nxt;go_wp2_with fail;go_quiet (first|go_at_call 40;exact Calls.quiet_of_same (zP Oo Oo)|go_at_call 56;exact Calls.quiet_of_same (e6 _ (below_drewN e5 _))|go_at_call 56;exact Calls.quiet_of_same (e6.o _ e5))
  go_wp2;go_roundw;exact⟨j+1,Oo,Gg,below_drewN c7 _,hf⟩;exact Im
 obtain rfl:m=j:=Oo;have i3:=aY m;have H3:=ay O.o;have z0:=qF I c0;have h6:=ay (g7 _ I H1);clear O c7 F3 g4;generalize wr=W3 at *;have o5:=ay I;clear I;have⟨MX,l2⟩:=Ex (qw (λi=>wdR es (bs.getD i [])) n);rw[<-l2]at h6 F5;clear l2;go_wp2_with fail;apply h6.o.mono;rintro e W4 ⟨v4,rfl,d4,l3⟩;have o6:=Zh (l:=prs n (λi=>wdR es (bs.getD i []))) (by rw[qi];exact d4);have⟨a4,p4,e4,h7⟩:=o6;rw[qi]at e4 h7;subst e4;have o7:=ay h7;have l4:=ay (bt o5 l3);clear h7 d4 l3 h6 z0;have t5:=TRp.new W4 MX.num MX.den;have l5:Bl W (W4.alloc (.cells #[ai MX.num,ai MX.den] 36)):=l4.o.alloc l4.o.size _;have e8:Hh (Bl W4 (W4.alloc (.cells #[ai MX.num,ai MX.den] 36))):=aK;have o8:=ay t5;have o9:=ay l5;have e9:Hh (∀(a:Addr) (v:Value),W4.cell? a=some v->(W4.alloc (.cells #[ai MX.num,ai MX.den] 36)).cell? a=some v):=λa v h=>qF e8 h;clear t5 l5 e8;go_upto_region 27 with fail;generalize W4.1.size=G at *;generalize W4.alloc (.cells #[ai MX.num,ai MX.den] 36)=W5 at *;go_wp2;go_loopw [144] (λt wr=>∃j:Nat,j<=n/\t=ai j/\Bl W5 wr/\Hh (∀i,i<j->xr es bs ws i=true)) (λt _=>n-(intOf t).toNat);exact⟨0,eC,rfl,eB,ay (λi hi=>Oo)⟩;obtain⟨j,hj,rfl,b1,O⟩:=hrel;have I:=bt o9 b1;by_cases a9:j<n
 .have i4:=aV a9;rcases o7.o with h0|⟨b,o,rfl,V⟩;omega;rcases m9.o with h0|⟨b2,o2,rfl,M⟩;omega;have⟨f1,f2⟩:=V j a9;have⟨g1,g2⟩:=M j a9;rw[vE a9]at f1 f2;have k1:=qF b1 (e9 _ _ f1);have k2:=qF b1 (e9 _ _ f2);have k3:=qF I g1;have k4:=qF I g2;have z3:=qF I c3;have fin:=F4 j a9;have nxt:xr es bs ws j=true->Hh (∀i,i<j+1->xr es bs ws i=true):=λe i hi=>by
   by_cases e2:i=j;rw[e2];exact e;exact O i Oo
  have b8:=m0 j;clear V M O f1 f2 g1 g2;generalize xr es bs ws j=y at *;generalize wdR es (bs.getD j [])=qq at *;unfold rp at b8;generalize ws.getD j (0,0)=p at *;have⟨p1,p2⟩:=p;simp only at k1 k2 k3 k4;generalize qq.num=qn at *;generalize (qq.den:Int)=qd at *;by_cases e1:qn=p1
  .subst e1;by_cases e2:qd=p2
   .subst e2;have hf:=nxt (by rw[b8];simp);clear fin nxt b8;go_wp2_with fail;go_quiet (fail)
    go_wp2;go_roundw;exact⟨j+1,Oo,Gg,below_drewN b1 _,hf⟩;exact Im
   obtain rfl:=fin (by rw[b8];simp;exact λh=>e2 h.symm);have x1:(qd == p2)=false:=by simpa using e2
   clear nxt b8;go_wp2_with fail;go_quiet (fail)
   go_wp2;go_ret;exact⟨rfl,bt K (below_drewN I _)⟩
  obtain rfl:=fin (by rw[b8];simp;exact λh=>absurd h.symm e1);have x1:(qn == p1)=false:=by simpa using e1
  clear nxt b8;go_wp2_with fail;go_quiet (fail)
  go_wp2;go_ret;exact⟨rfl,bt K (below_drewN I _)⟩
 obtain rfl:n=j:=Oo;have i4:=aY n;have hr:=F5 H1 H2 H3 O;have t5:=(o8.o.below b1).two;have k1:=t5.1;have k2:=t5.2.1;have z4:=qF I c4;have z5:=qF I c5;clear O t5;unfold rp at hr;generalize MX.num=qn at *;generalize (MX.den:Int)=qd at *;by_cases e1:qn=x0
 .subst e1;by_cases e2:qd=y0
  .subst e2;obtain rfl:res=true:=by rw[hr];simp
   clear hr;go_wp2;go_ret;exact⟨rfl,bt K I⟩
  obtain rfl:res=false:=by rw[hr];simp;exact λh=>e2 h.symm
  have x1:(qd == y0)=false:=by simpa using e2
  clear hr;go_wp2;go_ret;exact⟨rfl,bt K I⟩
 obtain rfl:res=false:=by rw[hr];simp;exact λh=>absurd h.symm e1
 have x1:(qn == x0)=false:=by simpa using e1
 clear hr;go_wp2;go_ret;exact⟨rfl,bt K I⟩
