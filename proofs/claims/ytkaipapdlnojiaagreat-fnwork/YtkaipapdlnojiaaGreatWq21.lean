import Derived.Laws.AppendOwnNone
import Derived.Test.YtkaipapdlnojiaaGreatWq20
set_option maxHeartbeats 40000000
set_option maxRecDepth 1000000
namespace Go.Proofs.YtkaipapdlnojiaaGreat
open Go.RowKit
variable {es:List (List Int)}{bag:List Int}{xs:List Value}{B b k n:Nat}{x:Nat->Rat}{v:Value}{W w:World}
def yN(n:Nat)(all:List Dem)(xs:Nat->Rat)(k:Nat)(ch:List Dem)(best:Option (Nat->Rat))(e:Ending)(w':World):Prop:=
 ∃v best',e=.returned v/\BestAt w' n all v best'/\((QT n xs best∨Compl n all xs k ch)->QT n xs best')
theorem qCm(w:World)(I:Value)(n:Nat)(ps:List (Value×Dem))(K:1<=n)(O:n<=7)(hl:ps.length=n)(U:DP w I ps)(M:∀p∈ps,zR n p.2)(V:¬Cov.Kern n ((ps.map Prod.snd).map Dem.dm)):
 Cl 44 #[.int .i64 n,I] w λe w'=>e=.returned (.tuple #[.slice none 0 0,.bool false])/\Bl w w':=
 (kg w I n ps K O hl U M).mono (by
  rintro e w' ⟨h|⟨v,x,rfl,h1,h2,h3,h4⟩,hb⟩
  ·exact⟨h.1,hb⟩
  ·exact absurd h4 V)
theorem qBe(w:World)(I:Value)(n:Nat)(ps:List (Value×Dem))(K:1<=n)(O:n<=7)(hl:ps.length=n)(U:DP w I ps)(M:∀p∈ps,zR n p.2)(V:Cov.Kern n ((ps.map Prod.snd).map Dem.dm)):
 Cl 44 #[.int .i64 n,I] w λe w'=>∃v x,e=.returned (.tuple #[v,.bool true])/\IR w' v (prs n x)/\Parts n x/\YC n (ps.map Prod.snd) x/\Bl w w':=
 (kg w I n ps K O hl U M).mono (by
  rintro e w' ⟨h|⟨v,x,rfl,h1,h2,h3,h4⟩,hb⟩
  ·exact absurd V h.2
  ·exact⟨v,x,rfl,h1,h2,h3,hb⟩)
theorem jB{all:List Dem}{xs:Nat->Rat}{I:List Dem}(K:I.length=n)(M:YC n I x)(h:Compl n all xs k I):∀i,i < n->x i=xs i:=
 λi hi=>(M xs (XM h K).1 i hi).symm
theorem Jk{D:Dem}{y:Nat->Rat}(h:∀i,i < n->x i=y i)(I:D.dm.meets n x):D.dm.meets n y:=by
 unfold Cov.Dm.meets at I ⊢;rw[<-Cov.at_congr D.dm h];exact I
theorem BestAt.form{all:List Dem}{b:Option (Nat->Rat)}(h:BestAt w n all v b):∃a lb cap,v=.slice a lb cap/\Hid ((b=none->lb=0)/\(b≠none->lb=n)):=by
 cases b with
 |none=>
  obtain⟨a,cap,e⟩:=h;exact⟨a,0,cap,e,hid ⟨λ_=>rfl,λh=>absurd rfl h⟩⟩
 |some b=>
  obtain⟨⟨a,cap,e,-⟩,-⟩:=h;rw[qR]at e;exact⟨a,n,cap,e,hid ⟨(λh=>by cases h),λ_=>rfl⟩⟩
theorem Y9(n:Nat)(most:Bool)(I:List (Value×Dem))(xs:Nat->Rat)(d9:1<=n)(hn:n<=7)(e9:I.length<=100)(a5:∀p∈I,zR n p.2)(hS:kR n most (I.map Prod.snd) xs)
 (w:World) (k:Nat) (va vc vb:Value) (U:List (Value×Dem)) (best:Option (Nat->Rat)) (ha:DP w va I) (hc:DP w vc U) (a6:U.length=n) (V:∀p∈U,zR n p.2) (hb:BestAt w n (I.map Prod.snd) vb best):
 Cl 18 #[.int .i64 n,va,.int .i64 k,vc,vb,.bool most] w λe w'=>yN n (I.map Prod.snd) xs k (U.map Prod.snd) best e w'/\Bl w w':=by
 obtain⟨all,K⟩:∃all,all=I.map Prod.snd:=⟨_,rfl⟩;rw[<-K]at hS hb ⊢;obtain⟨ch,a4⟩:∃ch,ch=U.map Prod.snd:=⟨_,rfl⟩;rw[<-a4];have O:ch.length=n:=by rw[a4,lM];exact a6
 obtain⟨ab,lb,cb,rfl,e0⟩:=hb.form;have a7:=hid hb;have HS:=hid hS;by_cases hk:Cov.Kern n (ch.map Dem.dm)
 ·have KS:Hid (Cl 44 #[.int .i64 n,vc] w λe w'=>∃v x,e=.returned (.tuple #[v,.bool true])/\IR w' v (prs n x)/\Parts n x/\YC n ch x/\Bl w w'):=hid (by rw[a4]at hk ⊢;exact qBe w vc n U d9 hn a6 hc V hk);obtain⟨⟨av,cv,rfl,_⟩,_⟩:=hc;obtain⟨⟨aa,ca,rfl,a2⟩,a3⟩:=ha;obtain⟨m,hm⟩:∃m,m=I.length:=⟨_,rfl⟩
  have HA:Hid (∀j,j < m->∃b o u d,aa=some ⟨b,o,none⟩/\all.getD j yQ=d/\d∈all/\zR n d/\IntsAt w u d.pl/\w.cell? ⟨b,o+j*3,none⟩=some u/\w.cell? ⟨b,o+j*3+1,none⟩=some (.bool d.up)/\w.cell? ⟨b,o+j*3+2,none⟩=some (.int .i64 d.bd)):=hid (λj hj=>by
   rcases a2 with h0|⟨b,o,e,b9⟩
   ·omega
   ·have c7:I.getD j pd0∈I:=zo Oo;obtain⟨h1,h2,h3⟩:=Qe I j Oo;exact⟨b,o,(I.getD j pd0).1,(I.getD j pd0).2,e,by rw[K];exact jQ I j,by rw[K];exact List.mem_map.2 ⟨_,c7,rfl⟩,a5 _ c7,a3 _ c7,b9 _ _ h1,b9 _ _ h2,b9 _ _ h3⟩)
  have f4:Hid (all.length=m):=hid (by rw[K,lM,hm]);rw[a6]at KS ⊢;rw[<-hm]at e9 ⊢;clear hk a2 a3 a5 V hb hS K a4 hm;go_enter Tryz.func18,Tryz.ntmps18
  go_upto_region 3 with (first|(go_at_call 44;refine KS.out.mono ?_;rintro e w1 ⟨vx,x,rfl,hx,hp,ho,a8⟩))
  have HX:=hid hx;have HP:=hid hp;have HO:=hid ho;have f7:=hid a8;obtain⟨ax,cx,rfl,-⟩:=hx;rw[qR]at HX ⊢;clear hp ho a8 KS;go_wp2;go_loopw [33] (λt wr=>∃j:Nat,j<=m/\t=.int .i64 j/\Hid (Bl w1 wr/\∀i,i < j->(all.getD i yQ).dm.meets n x)) (λt _=>m - (intOf t).toNat)
  case atStart=>exact⟨0,nZ _,rfl,hid ⟨bM _ _,λi hi=>Oo⟩⟩
  case round=>
   obtain⟨j,hj,rfl,hH⟩:=hrel;have HW:=hid (bt f7.out hH.out.1);have e4:=hid hH.out.2;have c8:=hid hH.out.1;clear hH;by_cases f8:j < m
   ·have i1:(j:Int) < (m:Int):=Oo;obtain⟨b,o,u,d,rfl,hd,e5,c9,hu,e1,e2,e3⟩:=HA.out j f8;have c1:=(HW.out.cell (p:=⟨b,o+j*3,none⟩) (bL w _ e1)).trans e1;have c2:=(HW.out.cell (p:=⟨b,o+j*3+1,none⟩) (bL w _ e2)).trans e2;have c3:=(HW.out.cell (p:=⟨b,o+j*3+2,none⟩) (bL w _ e3)).trans e3;have e6:=hu.below HW.out;have KM:Hid (∀W,Bl wr W->Cl 45 #[.slice ax n cx,.agg #[u,.bool d.up,.int .i64 d.bd]] W λe w'=>e=.returned (.bool (kE n d x))/\Bl W w'):=hid (λW hW=>VX W _ u n d x (HX.out.below (bt c8.out hW)) (e6.below hW) c9 HP.out);have HD:=hid (And.intro hd e5);obtain⟨au,cu,rfl,-⟩:=hu;obtain⟨q,hq⟩:∃q,q=d.pl.length:=⟨_,rfl⟩;rw[<-hq]at c1 KM;have f9:-1<=d.bd/\d.bd<=1:=by rcases c9.bd with h|h <;> omega
    clear hd e5 c9 e1 e2 e3 e6 hq;cases hmt:kE n d x
    ·rw[hmt]at KM;have a9:∀o,Bl wr (wr.alloc o):=λo=>(bM _ _).alloc (bK _) o;have b0:=hid a9;have d0:=hid hmt;clear hmt a9;go_wp2_with (first|(go_at_call 45;refine(KM.out _ (b0.out _)).mono ?_;rintro e w2 ⟨rfl,M⟩))
     go_ret;have e7:=bt HW.out (bt (b0.out _) M);refine⟨⟨_,best,rfl,a7.out.below e7,λh=>h.elim id (λh=>?_)⟩,e7⟩;exfalso;have h1:=jB O HO.out h;have h2:=UR.2 (Jk (λi hi=>(h1 i hi).symm) (HS.out.meets d HD.out.2));rw[d0.out]at h2;cases h2
    ·rw[hmt]at KM;have a9:∀o,Bl wr (wr.alloc o):=λo=>(bM _ _).alloc (bK _) o;have b0:=hid a9;have d0:=hid hmt;clear hmt a9;go_wp2_with (first|(go_at_call 45;refine(KM.out _ (b0.out _)).mono ?_;rintro e w2 ⟨rfl,M⟩))
     go_roundw
     case rel=>exact⟨j+1,Oo,Gg,hid ⟨bt c8.out (bt (b0.out _) M),λi hi=>by
      by_cases e:i=j
      ·rw[e,HD.out.1];exact UR.1 d0.out
      ·exact e4.out i Oo⟩⟩
     case measure=>simp[intOf];omega
   ·obtain rfl:m=j:=Oo;have i1:¬((m:Int) < (m:Int)):=Oo
    have d6:Hid (InP n all x):=hid (λD hD=>by
     obtain⟨r,hr,rfl⟩:=jL (d:=yQ) hD;exact e4.out r (by rw[<-f4.out];exact hr))
    have d7:=hid (HX.out.below c8.out);cases best with
    |none=>
     obtain rfl:lb=0:=e0.out.1 rfl;go_wp2;go_ret;refine⟨⟨_,some x,rfl,⟨d7.out,d6.out,HP.out⟩,λh=>h.elim (λh=>False.elim h) (λh=>jB O HO.out h)⟩,HW.out⟩
    |some bb=>
     obtain rfl:n=lb:=(e0.out.2 Ss).symm;have b7:=a7.out.below HW.out;have i2:¬((n:Int)=0):=Oo;have i3:((n:Int) == 0)=false:=by simp;omega
     have KB:Hid (Cl 46 #[.slice ax n cx,.slice ab n cb,.bool most] wr λe w'=>e=.returned (.bool (uQ n most x bb))/\Bl wr w'):=hid (XV wr _ _ n most x bb hn d7.out b7.1 HP.out b7.2.2);have e8:=hid b7;clear b7;cases hbf:uQ n most x bb
     ·rw[hbf]at KB;have d8:=hid hbf;clear hbf;go_wp2_with (first|(go_at_call 46;refine KB.out.mono ?_;rintro e w2 ⟨rfl,M⟩))
      go_ret;refine⟨⟨_,some bb,rfl,e8.out.below M,λh=>h.elim id (λh=>?_)⟩,bt HW.out M⟩;exact qCZ HS.out e8.out.2.1 d8.out (jB O HO.out h)
     ·rw[hbf]at KB;have d8:=hid hbf;clear hbf;go_wp2_with (first|(go_at_call 46;refine KB.out.mono ?_;rintro e w2 ⟨rfl,M⟩))
      go_ret;refine⟨⟨_,some x,rfl,⟨d7.out.below M,d6.out,HP.out⟩,λh=>h.elim (λh=>?_) (λh=>jB O HO.out h)⟩,bt HW.out M⟩;exact qCY HS.out d6.out d8.out h
 ·have KS:Hid (Cl 44 #[.int .i64 n,vc] w λe w'=>e=.returned (.tuple #[.slice none 0 0,.bool false])/\Bl w w'):=hid (by rw[a4]at hk;exact qCm w vc n U d9 hn a6 hc V hk);obtain⟨⟨av,cv,rfl,_⟩,_⟩:=hc;obtain⟨⟨aa,ca,rfl,_⟩,_⟩:=ha;rw[a6]at KS ⊢;have HK:=hid hk;clear hk a5 V hb hS K a4;go_enter Tryz.func18,Tryz.ntmps18
  go_wp2_with (first|(go_at_call 44;refine KS.out.mono ?_;rintro e w1 ⟨rfl,a8⟩))
  go_ret;refine⟨⟨_,best,rfl,a7.out.below a8,λh=>h.elim id (λh=>?_)⟩,a8⟩;exact absurd (XM h O).2 HK.out
theorem VB(n:Nat)(most:Bool)(I:List (Value×Dem))(xs:Nat->Rat)(hn:n<=7)(a2:I.length<=100)
 (w:World) (k:Nat) (hk:k<=I.length) (U V vb:Value) (K:List (Value×Dem)) (best:Option (Nat->Rat)) (ha:DP w U I) (hc:DP w V K) (a3:K.length < n) (hb:BestAt w n (I.map Prod.snd) vb best) (O:I.length < k+n - K.length):
 Cl 18 #[.int .i64 n,U,.int .i64 k,V,vb,.bool most] w λe w'=>yN n (I.map Prod.snd) xs k (K.map Prod.snd) best e w'/\Bl w w':=by
 obtain⟨ab,lb,cb,rfl,a4⟩:=hb.form;have M:=hid hb;have HC:Hid (¬Compl n (I.map Prod.snd) xs k (K.map Prod.snd)):=hid (λh=>qBM h (by rw[lM,lM];exact O) (by rw[lM];exact hk));obtain⟨⟨av,cv,rfl,_⟩,_⟩:=hc;obtain⟨⟨aa,ca,rfl,_⟩,_⟩:=ha;clear hb;generalize hm:I.length=m at *;generalize hq:K.length=q at *;have i1:¬((q:Int)=(n:Int)):=Oo;have i2:((q:Int) == (n:Int))=false:=by simp;omega
 have i3:(m:Int) < (k:Int)+(n:Int) - (q:Int):=Oo;clear hm hq;go_enter Tryz.func18,Tryz.ntmps18
 go_wp2;go_ret;exact⟨⟨_,best,rfl,M.out,λh=>h.elim id (λh=>absurd h HC.out)⟩,bM _ _⟩
theorem yO{P:Program}{ops:Array Oper}{o:Oper}{a:Act}{K:Act->World->Prop}{Q:Exit->Act->World->Prop}{E:Prop}(O:o.guard=none)(s x:Operand)(t:TypeId)
 (U:o.op=.call { callee:=.builtin .append,args:=#[s,x],argTypes:=#[t,t] })
 (base:Nat) (e:TypeId) (i:TypeInfo) (size:Nat) (V:P.underlying t=some (.slice e)) (hi:P.info? e=some i)
 (v:Value) (n:Nat) (xs:List Value) (hs:a.eval s=v) (I:w.ownsRow base e size v n xs) (hx:a.eval x=.slice none 0 0)
 (h:K (a.put o.dst v) w):if Region.wanted o (yielded ops a.tmps)=true then Oper.wp P o a w K Q else E:=by
 have hw:Region.wanted o (yielded ops a.tmps)=true:=by simp[Region.wanted,O]
 rw[if_pos hw];have M:=run_append_owned_none (P:=P) (w:=w) base t o.type e i size V hi v n xs I;unfold Oper.wp;simp[execOp,U,resolve,invoke,builtin,hs,hx,M,Result.andThen];exact h
theorem uR(b o j:Nat):(⟨b,o,none⟩:Addr).add j=⟨b,o+j,none⟩:=by
 unfold Addr.add;split <;> simp_all
theorem vX(w:World)(x y z:Value)(t:TypeId):∀j u,[x,y,z][j]?=some u->(w.alloc (.cells #[x,y,z] t)).cell? ((⟨w.heap.size,0,none⟩:Addr).add j)=some u:=by
 intro j u I;match j,I with
 |0,I=>simp at I;subst I;simp[Addr.add]
 |1,I=>simp at I;subst I;simp[Addr.add]
 |2,I=>simp at I;subst I;simp[Addr.add]
theorem Tryz.infoDem:(Tryz.prog.info? 53).map (λi=>(i.zero,i.size,i.bytes))=some (some (.agg #[.slice none 0 0,.bool false,.int .i64 0]),3,40):=by kernel_rfl
def eD:Obj:=.cells #[] 53
def dD(u:Value)(d:Dem):Obj:=.cells #[u,.bool d.up,.int .i64 d.bd] 53
section
variable {w:World} {u:Value} {d:Dem}
theorem V4:(w.alloc eD).ownsRow w.heap.size 53 3 (.slice (some ⟨w.heap.size,0,none⟩) 0 0) 0 []:=oM w #[] 0 (bK _) Dd rfl
theorem qFN:((w.alloc eD).alloc (dD u d)).ownsRow w.heap.size 53 3 (.slice (some ⟨w.heap.size,0,none⟩) 0 0) 0 []:=V4.alloc _
theorem qFO:((w.alloc (dD u d)).alloc eD).ownsRow w.heap.size 53 3 (.slice (some ⟨w.heap.size+1,0,none⟩) 0 0) 0 []:=by
 have:=oM (base:=w.heap.size) (e:=53) (size:=3) (w.alloc (dD u d)) #[] 0 Ss Dd rfl;rw[show(w.alloc (dD u d)).heap.size=w.heap.size+1 by simp]at this;exact this
theorem qFP:∀j x,[u,.bool d.up,.int .i64 d.bd][j]?=some x->((w.alloc (dD u d)).alloc eD).cell? ((⟨w.heap.size,0,none⟩:Addr).add j)=some x:=λj x I=>by
 have:=vX w u (.bool d.up) (.int .i64 d.bd) 53 j x I;rw[uR]at this ⊢;rw[World.cell?_alloc_past _ _ _ Ss];exact this
theorem qFQ:∀j x,[u,.bool d.up,.int .i64 d.bd][j]?=some x->((w.alloc eD).alloc (dD u d)).cell? ((⟨w.heap.size+1,0,none⟩:Addr).add j)=some x:=by
 have:=vX (w.alloc eD) u (.bool d.up) (.int .i64 d.bd) 53;rw[show(w.alloc eD).heap.size=w.heap.size+1 by simp]at this;exact this
end
theorem jx{y a:Nat}(h:(Value.slice (some ⟨y,0,none⟩) a b).ownBlock=some k):y=k:=by
 simpa[Value.ownBlock]using h
theorem YT{w3:World}{x y z:Value}{s g:Nat}(M:∀j u,[x,y,z][j]?=some u->W.cell? ((⟨s,0,none⟩:Addr).add j)=some u)(hs:s < W.heap.size)(I:s≠g)(O:W.drew.grownBy w3 (Value.slice (some ⟨g,0,none⟩) 0 k).ownBlock):∀j u,[x,y,z][j]?=some u->w3.cell? ((⟨s,0,none⟩:Addr).add j)=some u:=by
 intro j u U;have K:=M j u U;rw[uR]at K ⊢;exact(bF (w:=W) (a:=⟨s,0+j,none⟩) (O.block _ hs (by simpa[Value.ownBlock]using I))).trans K
theorem Ks{w2:World}{I:List (Value×Dem)}{p:Value×Dem}(M:∀q∈I,IntsAt w q.1 q.2.pl)(hp:IntsAt w p.1 p.2.pl)(hb:Bl w w2)(K:w2.ownsRow B 53 3 v (I.length+1) (dcs I++[p.1,.bool p.2.up,.int .i64 p.2.bd])):DP w2 v (I++[p]):=by
 refine qBv (B:=B) (by rw[US,lA];exact K) (λq hq=>?_);rcases List.mem_append.1 hq with h|h
 ·exact(M q h).below hb
 ·rw[List.mem_singleton.1 h];exact hp.below hb
theorem VC(n:Nat)(most:Bool)(O:List (Value×Dem))(xs:Nat->Rat)(hn:n<=7)(k9:O.length<=100)(e7:∀p∈O,zR n p.2)
 (w:World) (k:Nat) (va vc vb:Value) (I:List (Value×Dem)) (best:Option (Nat->Rat)) (ha:DP w va O) (hc:DP w vc I) (h6:I=[]->vc=.slice none 0 0) (l0:I.length < n) (c9:∀p∈I,zR n p.2) (hb:BestAt w n (O.map Prod.snd) vb best) (l1:k+n - I.length<=O.length)
 (e8:∀(w:World) (vc vb:Value) (I:List (Value×Dem)) (best:Option (Nat->Rat)),DP w va O->DP w vc I->(I=[]->vc=.slice none 0 0)->I.length<=n->(∀p∈I,zR n p.2)->BestAt w n (O.map Prod.snd) vb best->
  Cl 18 #[.int .i64 n,va,.int .i64 ((k:Int)+1),vc,vb,.bool most] w λe w'=>yN n (O.map Prod.snd) xs (k+1) (I.map Prod.snd) best e w'/\Bl w w'):
 Cl 18 #[.int .i64 n,va,.int .i64 k,vc,vb,.bool most] w λe w'=>yN n (O.map Prod.snd) xs k (I.map Prod.snd) best e w'/\Bl w w':=by
 obtain⟨i0,hi,a3,a4,a6⟩:=info_parts Tryz.infoDem;have g5:k < O.length:=Oo;obtain⟨pk,e0⟩:∃p,p=O.getD k pd0:=⟨_,rfl⟩;have g6:pk∈O:=by rw[e0];exact zo g5
 have j5:Hid (Compl n (O.map Prod.snd) xs k (I.map Prod.snd)->Compl n (O.map Prod.snd) xs (k+1) ((I++[pk]).map Prod.snd)∨Compl n (O.map Prod.snd) xs (k+1) (I.map Prod.snd)):=hid (λh=>by
  have:=qBL (by rw[lM];exact g5) h;rw[jQ,<-e0]at this;rw[mA];exact this)
 obtain⟨ab,lb,cb,rfl,l2⟩:=hb.form;have HA:=hid ha;have HC:=hid hc;have h7:=hid h6;have h8:=hid hb;have e9:=hid e8
 have h9:Hid (∀p∈I++[pk],zR n p.2):=hid (λp hp=>by
  rcases List.mem_append.1 hp with h|h
  ·exact c9 p h
  ·rw[List.mem_singleton.1 h];exact e7 pk g6)
 have j6:=hid c9;have i5:=hid hc.each;have g7:=hid (ha.each pk g6);obtain⟨⟨av,cv,rfl,a2⟩,_⟩:=hc;obtain⟨⟨aa,ca,rfl,a9⟩,_⟩:=ha
 have d0:∃b o,aa=some ⟨b,o,none⟩/\w.cell? ⟨b,o+k*3,none⟩=some pk.1/\w.cell? ⟨b,o+k*3+1,none⟩=some (.bool pk.2.up)/\w.cell? ⟨b,o+k*3+2,none⟩=some (.int .i64 pk.2.bd):=by
  rcases a9 with h0|⟨b,o,e,a7⟩
  ·omega
  ·obtain⟨h1,h2,h3⟩:=Qe O k g5;rw[<-e0]at h1 h2 h3;exact⟨b,o,e,a7 _ _ h1,a7 _ _ h2,a7 _ _ h3⟩
 obtain⟨b,o,rfl,e1,e2,e3⟩:=d0;have FX:Hid (∀W,Bl w W->W.cell? ⟨b,o+k*3,none⟩=some pk.1/\W.cell? ⟨b,o+k*3+1,none⟩=some (.bool pk.2.up)/\W.cell? ⟨b,o+k*3+2,none⟩=some (.int .i64 pk.2.bd)):=hid (λW hW=>⟨(hW.cell (p:=⟨b,o+k*3,none⟩) (bL w _ e1)).trans e1,(hW.cell (p:=⟨b,o+k*3+1,none⟩) (bL w _ e2)).trans e2,(hW.cell (p:=⟨b,o+k*3+2,none⟩) (bL w _ e3)).trans e3⟩);have d6:=hid (qEO HC.out);obtain⟨u,d⟩:=pk;obtain⟨au,cu,g8,_⟩:=g7.out;simp only at g8
 have d7:Hid (∀x∈[u,.bool d.up,.int .i64 d.bd],x.oneCell'=true):=hid (λx hx=>by
  simp only[List.mem_cons,List.not_mem_nil,or_false]at hx;rcases hx with rfl|rfl|rfl
  ·rw[g8];rfl
  ·rfl
  ·rfl)
 subst g8;generalize d.pl.length=lu at *;have k0:=hid (K6 I);clear e0 g6 e8 c9 e7 hb a9 h6;generalize hm:O.length=m at *;generalize hq:I.length=q at *;have i1:¬((q:Int)=(n:Int)):=Oo;have i2:((q:Int) == (n:Int))=false:=by simp;omega
 have i3:¬((m:Int) < (k:Int)+(n:Int) - (q:Int)):=Oo;have i4:(k:Int) < (m:Int):=Oo;have HM:=hid hm;have HQ:=hid hq;clear hm hq;go_enter Tryz.func18,Tryz.ntmps18
 go_upto_region 16 with fail
 go_cut [17] (λv wx=>Hid (Bl w wx/\DP wx v (I++[((.slice au lu cu:Value),d)])))
 case first=>
  have b1:Bl w (w.alloc eD):=(bM _ _).alloc (bK _) _;have b2:Bl w ((w.alloc eD).alloc (dD (.slice au lu cu) d)):=b1.alloc b1.size _;have o1:=V4 (w:=w);have o2:=qFN (w:=w) (u:=.slice au lu cu) (d:=d);have n2:=qFQ (w:=w) (u:=.slice au lu cu) (d:=d);have b4:Bl w (w.alloc (dD (.slice au lu cu) d)):=(bM _ _).alloc (bK _) _;have b3:Bl w ((w.alloc (dD (.slice au lu cu) d)).alloc eD):=b4.alloc b4.size _;have o3:=qFO (w:=w) (u:=.slice au lu cu) (d:=d);have n3:=qFP (w:=w) (u:=.slice au lu cu) (d:=d);have k1:((w.alloc (dD (.slice au lu cu) d)).alloc eD).heap.size=w.heap.size+2:=Ss;have b0:w.heap.size<=((w.alloc (dD (.slice au lu cu) d)).alloc eD).heap.size:=b3.size;have k4:((w.alloc eD).alloc (dD (.slice au lu cu) d)).heap.size=w.heap.size+2:=Ss;have f4:w.heap.size<=(w.alloc eD).heap.size:=b1.size;have b7:w.heap.size<=((w.alloc eD).alloc (dD (.slice au lu cu) d)).heap.size:=b2.size;obtain⟨p1,p2,p3⟩:=FX.out _ b1;by_cases k5:q=0
  ·subst k5;have f7:I=[]:=List.length_eq_zero_iff.1 HQ.out;have hv:=h7.out f7;simp only[Value.slice.injEq]at hv;obtain⟨rfl,-,rfl⟩:=hv;have i6:=hid f7;clear a2;unfold eD dD at *
   go_region_law (first
    |(refine yO (by rfl) _ _ _ (by rfl) w.heap.size 53 i0 3 Tryz.underlying51 hi _ 0 [] (by rfl) o1 (by rfl) ?_)
    |(refine yO (by rfl) _ _ _ (by rfl) w.heap.size 53 i0 3 Tryz.underlying51 hi _ 0 [] (by rfl) o2 (by rfl) ?_)
    |(refine yO (by rfl) _ _ _ (by rfl) w.heap.size 53 i0 3 Tryz.underlying51 hi _ 0 [] (by rfl) o3 (by rfl) ?_)
    |(refine step_append_lies _ (by rfl) _ _ _ (by rfl) w.heap.size 53 i0 (.agg #[.slice none 0 0,.bool false,.int .i64 0]) 3 40 Tryz.underlying51 hi a3 a4 a6 rfl Dd _ 0 [] (by rfl) o2 ⟨w.heap.size+1,0,none⟩ 1 1 [.slice au lu cu,.bool d.up,.int .i64 d.bd] (by rfl) (by rfl) n2 d7.out Dd Dd Dd b7 _ rfl ?_;intro g3 cp3 w3 K M b9 c7;have U:Bl w w3:=b2.drew.grown M b7 (λk e=>by have:=jx e;omega))
    |(refine step_append_lies _ (by rfl) _ _ _ (by rfl) w.heap.size 53 i0 (.agg #[.slice none 0 0,.bool false,.int .i64 0]) 3 40 Tryz.underlying51 hi a3 a4 a6 rfl Dd _ 0 [] (by rfl) o3 ⟨w.heap.size,0,none⟩ 1 1 [.slice au lu cu,.bool d.up,.int .i64 d.bd] (by rfl) (by rfl) n3 d7.out Dd Dd Dd b0 _ rfl ?_;intro g3 cp3 w3 K M b9 c7;have U:Bl w w3:=b3.drew.grown M b0 (λk e=>by have:=jx e;omega))
    |fail)
   all_goals
    go_wp2_with fail
    go_meet
    refine hid ⟨U,Ks i5.out g7.out U (B:=w.heap.size) ?_⟩
    rw[i6.out]
    exact K
  ·have g9:0 < q:=Oo
   have d0:∃b2 o2,av=some ⟨b2,o2,none⟩/\∀j u,(dcs I)[j]?=some u->w.cell? ⟨b2,o2+j,none⟩=some u:=by
    rcases a2 with h0|h
    ·omega
    ·exact h
   obtain⟨bc,oc,rfl,a7⟩:=d0;have l3:q<=7:=Oo
   have i7:∀j u,(dcs I)[j]?=some u->((w.alloc eD).alloc (dD (.slice au lu cu) d)).cell? ((⟨bc,oc,none⟩:Addr).add j)=some u:=λj u hj=>by
    have h1:=a7 j u hj;rw[uR];exact(b2.cell (p:=⟨bc,oc+j,none⟩) (bL w _ h1)).trans h1
   have i8:∀j u,(dcs I)[j]?=some u->(w.alloc eD).cell? ((⟨bc,oc,none⟩:Addr).add j)=some u:=λj u hj=>by
    have h1:=a7 j u hj;rw[uR];exact(b1.cell (p:=⟨bc,oc+j,none⟩) (bL w _ h1)).trans h1
   have h4:=k0.out
   have i9:∀j u,(dcs I)[j]?=some u->((w.alloc (dD (.slice au lu cu) d)).alloc eD).cell? ((⟨bc,oc,none⟩:Addr).add j)=some u:=λj u hj=>by
    have h1:=a7 j u hj;rw[uR];exact(b3.cell (p:=⟨bc,oc+j,none⟩) (bL w _ h1)).trans h1
   have j0:∀w3,((w.alloc (dD (.slice au lu cu) d)).alloc eD).drew.grownBy w3 (Value.slice (some ⟨w.heap.size+1,0,none⟩) 0 0).ownBlock->Bl w w3:=λw3 h=>b3.drew.grown h b0 (λk e=>by have:=jx e;omega);have c8:∀w3,(w.alloc eD).drew.grownBy w3 (Value.slice (some ⟨w.heap.size,0,none⟩) 0 0).ownBlock->Bl w w3:=λw3 h=>b1.drew.grown h f4 (λk e=>by have:=jx e;omega);have d8:∀w3,((w.alloc eD).alloc (dD (.slice au lu cu) d)).drew.grownBy w3 (Value.slice (some ⟨w.heap.size,0,none⟩) 0 0).ownBlock->Bl w w3:=λw3 h=>b2.drew.grown h b7 (λk e=>by have:=jx e;omega);clear a2 a7;unfold eD dD at *
   go_region_law (first
    |(refine step_append_lies _ (by rfl) _ _ _ (by rfl) w.heap.size 53 i0 (.agg #[.slice none 0 0,.bool false,.int .i64 0]) 3 40 Tryz.underlying51 hi a3 a4 a6 rfl Dd _ 0 [] (by rfl) o1 ⟨bc,oc,none⟩ q cv (dcs I) (by rfl) h4 i8 d6.out g9 (by unfold maxLen;omega) Oo f4 _ rfl ?_;intro g3 cp3 w3 K M b9 c7;simp only[Nat.zero_add,List.nil_append]at K;have U:=c8 w3 M;obtain⟨r1,r2,r3⟩:=FX.out w3 U)
    |(refine step_append_lies _ (by rfl) _ _ _ (by rfl) w.heap.size 53 i0 (.agg #[.slice none 0 0,.bool false,.int .i64 0]) 3 40 Tryz.underlying51 hi a3 a4 a6 rfl Dd _ 0 [] (by rfl) o2 ⟨bc,oc,none⟩ q cv (dcs I) (by rfl) h4 i7 d6.out g9 (by unfold maxLen;omega) Oo b7 _ rfl ?_;intro g3 cp3 w3 K M b9 c7;simp only[Nat.zero_add,List.nil_append]at K;have U:=d8 w3 M;have nB:=YT n2 (by rw[k4];omega) Oo M)
    |(refine step_append_lies _ (by rfl) _ _ _ (by rfl) w.heap.size 53 i0 (.agg #[.slice none 0 0,.bool false,.int .i64 0]) 3 40 Tryz.underlying51 hi a3 a4 a6 rfl Dd _ 0 [] (by rfl) o3 ⟨bc,oc,none⟩ q cv (dcs I) (by rfl) h4 i9 d6.out g9 (by unfold maxLen;omega) Oo b0 _ rfl ?_;intro g3 cp3 w3 K M b9 c7;simp only[Nat.zero_add,List.nil_append]at K;have U:=j0 w3 M;have nC:=YT n3 (by rw[k1];omega) Oo M)
    |(refine step_append_lies _ (by rfl) _ _ _ (by rfl) w.heap.size 53 i0 (.agg #[.slice none 0 0,.bool false,.int .i64 0]) 3 40 Tryz.underlying51 hi a3 a4 a6 rfl Dd _ _ _ (by rfl) (K.alloc _) ⟨w3.heap.size,0,none⟩ 1 1 [.slice au lu cu,.bool d.up,.int .i64 d.bd] (by rfl) (by rfl) (vX w3 _ _ _ _) d7.out Dd (by unfold maxLen;omega) Oo (bQ U.size Ss) _ rfl ?_;intro g4 j1 w4 a8 V f8 f9;have e4:Bl w w4:=(U.alloc U.size _).grown V (bQ U.size Ss) (λk e=>(K.lt k e).1))
    |(refine step_append_lies _ (by rfl) _ _ _ (by rfl) w.heap.size 53 i0 (.agg #[.slice none 0 0,.bool false,.int .i64 0]) 3 40 Tryz.underlying51 hi a3 a4 a6 rfl Dd _ _ _ (by rfl) K ⟨w.heap.size+1,0,none⟩ 1 1 [.slice au lu cu,.bool d.up,.int .i64 d.bd] (by rfl) (by rfl) nB d7.out Dd (by unfold maxLen;omega) Oo U.size _ rfl ?_;intro g4 j1 w4 a8 V f8 f9;have e4:Bl w w4:=U.grown V U.size (λk e=>(K.lt k e).1))
    |(refine step_append_lies _ (by rfl) _ _ _ (by rfl) w.heap.size 53 i0 (.agg #[.slice none 0 0,.bool false,.int .i64 0]) 3 40 Tryz.underlying51 hi a3 a4 a6 rfl Dd _ _ _ (by rfl) K ⟨w.heap.size,0,none⟩ 1 1 [.slice au lu cu,.bool d.up,.int .i64 d.bd] (by rfl) (by rfl) nC d7.out Dd (by unfold maxLen;omega) Oo U.size _ rfl ?_;intro g4 j1 w4 a8 V f8 f9;have e4:Bl w w4:=U.grown V U.size (λk e=>(K.lt k e).1))
    |fail)
   all_goals
    go_wp2_with fail
    go_meet
    refine hid ⟨e4,Ks i5.out g7.out e4 (B:=w.heap.size) ?_⟩
    rw[HQ.out]
    simpa using a8
 case rest=>
  have HX:=hcut;obtain⟨⟨a5,c5,e5,-⟩,-⟩:=HX.out.2;rw[lA,HQ.out]at e5;simp only[List.length_cons,List.length_nil,Nat.zero_add]at e5;subst e5
  have K1:Hid (Cl 18 #[.int .i64 n,.slice (some ⟨b,o,none⟩) m ca,.int .i64 ((k:Int)+1),.slice a5 (q+1) c5,.slice ab lb cb,.bool most] wc λe w'=>yN n (O.map Prod.snd) xs (k+1) ((I++[((.slice au lu cu:Value),d)]).map Prod.snd) best e w'/\Bl wc w'):=
   hid (e9.out wc _ _ _ best (HA.out.below HX.out.1) HX.out.2 (λh=>by simp at h) (by rw[lA,HQ.out];simp;omega) h9.out (h8.out.below HX.out.1))
  go_upto_region 18 with (first|(go_at_call 18;refine K1.out.mono ?_;rintro e w1 ⟨⟨v1,d9,rfl,c8,g2⟩,j2⟩))
  have e6:=bt HX.out.1 j2
  have K2:Hid (Cl 18 #[.int .i64 n,.slice (some ⟨b,o,none⟩) m ca,.int .i64 ((k:Int)+1),.slice av q cv,v1,.bool most] w1 λe w'=>yN n (O.map Prod.snd) xs (k+1) (I.map Prod.snd) d9 e w'/\Bl w1 w'):=
   hid (e9.out w1 _ _ _ d9 (HA.out.below e6) (HC.out.below e6) h7.out (by rw[HQ.out];omega) j6.out c8)
  have j3:=hid g2;have k7:=hid e6;clear g2 j2 c8 e6;go_wp2_with (first|(go_at_call 18;refine K2.out.mono ?_;rintro e w2 ⟨⟨v2,h5,rfl,d8,j4⟩,k8⟩))
  go_ret;refine⟨⟨_,h5,rfl,d8,λh=>j4 ?_⟩,bt k7.out k8⟩;rcases h with h|h
  ·exact Or.inl (j3.out (Or.inl h))
  ·rcases j5.out h with h1|h1
   ·exact Or.inl (j3.out (Or.inr h1))
   ·exact Or.inr h1
theorem jd(n:Nat)(most:Bool)(I:List (Value×Dem))(xs:Nat->Rat)(a3:1<=n)(hn:n<=7)(U:I.length<=100)(O:∀p∈I,zR n p.2)(hS:kR n most (I.map Prod.snd) xs)(va:Value):
 ∀(f:Nat) (w:World) (k:Nat) (V vb:Value) (K:List (Value×Dem)) (best:Option (Nat->Rat)),I.length - k<=f->k<=I.length->DP w va I->DP w V K->(K=[]->V=.slice none 0 0)->K.length<=n->(∀p∈K,zR n p.2)->BestAt w n (I.map Prod.snd) vb best->
  Cl 18 #[.int .i64 n,va,.int .i64 (k:Nat),V,vb,.bool most] w λe w'=>yN n (I.map Prod.snd) xs k (K.map Prod.snd) best e w'/\Bl w w'
 |f,w,k,V,vb,K,best,hf,hk,ha,hc,a2,a4,M,hb=>by
  by_cases h1:K.length=n
  ·exact Y9 n most I xs a3 hn U O hS w k va V vb K best ha hc h1 M hb
  ·by_cases h2:I.length < k+n - K.length
   ·exact VB n most I xs hn U w k hk va V vb K best ha hc Oo hb h2
   ·match f,hf with
    |0,hf=>omega
    |f+1,hf=>
     refine VC n most I xs hn U O w k va V vb K best ha hc a2 Oo M hb Oo (λw V vb K best ha hc a2 a4 M hb=>?_);have:=jd n most I xs a3 hn U O hS va f w (k+1) V vb K best Oo Oo ha hc a2 a4 M hb;rw[show((k+1:Nat):Int)=(k:Int)+1 by omega]at this;exact this
def vT(l:List Nat):List Value:=(l.map Int.ofNat).map (Value.int .i64)
structure DL(W:World)(B:Nat)(v:Value)(ps:List (Value×Dem)):Prop where
 own:W.ownsRow B 53 3 v ps.length (dcs ps)
 each:∀p∈ps,W.ownsRow B 3 1 p.1 p.2.pl.length (vT p.2.pl)
theorem qDP{l:List Nat}(h:W.ownsRow B 3 1 v l.length (vT l)):IntsAt W v l:=by
 have O:W.ownsRow B 3 1 v (l.map Int.ofNat).length ((l.map Int.ofNat).map (Value.int .i64)):=by rw[lM];exact h
 obtain⟨a,cp,e,K⟩:=qK O;rw[lM]at e K;refine⟨a,cp,e,λj M=>?_⟩;rcases K with V|⟨b,o,U,I⟩
 ·omega
 ·refine⟨b,o,U,(I j M).trans ?_⟩;rw[gD,bN,gD,bC M];rfl
section
variable {W W' w3:World} {B:Nat} {v v' u:Value} {ps qs:List (Value×Dem)} {p:Value×Dem} {o:Obj}
theorem DL.below(h:DL W B v ps)(hb:Bl W W'):DL W' B v ps:=⟨qB h.own hb,λp hp=>qB (h.each p hp) hb⟩
theorem DL.dp(h:DL W B v ps):DP W v ps:=qBv h.own (λp hp=>qDP (h.each p hp))
theorem DL.nil(W:World):DL (W.alloc eD) W.heap.size (.slice (some ⟨W.heap.size,0,none⟩) 0 0) []:=⟨V4,λp hp=>by cases hp⟩
theorem DL.base{B':Nat}(h:DL W B v ps)(hB:B'<=B):DL W B' v ps:=⟨qF h.own hB,λp hp=>qF (h.each p hp) hB⟩
theorem qV(K:(W.alloc o).grownBy w3 v.ownBlock)(hb:b < W.heap.size)(I:some b≠v.ownBlock):w3.heap[b]?=W.heap[b]?:=
 (K.block b (by simp;omega) I).trans (Below.heap_alloc _ _ _ hb)
theorem DL.step(h:DL W B v ps)(hp:W.ownsRow B 3 1 p.1 p.2.pl.length (vT p.2.pl))(I:w3.ownsRow B 53 3 v' (ps.length+1) (dcs ps++[p.1,.bool p.2.up,.int .i64 p.2.bd]))(U:(W.alloc o).grownBy w3 v.ownBlock):DL w3 B v' (ps++[p]):=by
 have hint:∀{x:Value} {k:Nat} {xs:List Value},W.ownsRow B 3 1 x k xs->w3.ownsRow B 3 1 x k xs:=λM=>
  qA M (λg K=>qV U ((M.lt g K).2) (λe=>own_ne h.own (qO M K) Dd e))
 refine⟨by rw[US,lA];exact I,λq hq=>?_⟩;rcases List.mem_append.1 hq with O|O
 ·exact hint (h.each q O)
 ·rw[List.mem_singleton.1 O];exact hint hp
theorem DL.other(h:DL W B u qs)(hv:W.ownsRow B 53 3 v n xs)(K:∀g,u.ownBlock=some g->v.ownBlock≠some g)(O:(W.alloc o).grownBy w3 v.ownBlock):DL w3 B u qs:=by
 refine⟨qA h.own (λg I=>qV O ((h.own.lt g I).2) (λe=>K g I e.symm)),λq hq=>?_⟩;have M:=h.each q hq;exact qA M (λg I=>qV O ((M.lt g I).2) (λe=>own_ne hv (qO M I) Dd e))
end
theorem VV{α β:Type}(f:α->β)(l:List α)(d:α)(h:k < l.length):(l.take (k+1)).map f=(l.take k).map f++[f (l.getD k d)]:=by
 rw[tA,bC h,mA,gD,bC h];rfl
theorem QO(p:Nat->Bool)(k:Nat):(plc p k).map (Value.int .i64)=vT (plN p k):=rfl
theorem Xr(p:Nat->Bool)(k:Nat):(plc p k).length=(plN p k).length:=by rw[qE7,lM]
theorem qDQ(I:k < bag.length)(h:plN (λi=>decide (bag.getD k 0∈es.getD i [])) es.length=[]):ql bag es=false:=by
 cases hc:ql bag es
 ·rfl
 ·exfalso;obtain⟨e,K,M⟩:=jE hc I;have:e∈plN (λi=>decide (bag.getD k 0∈es.getD i [])) es.length:=xh.2 ⟨K,decide_eq_true M⟩;rw[h]at this;cases this
theorem VW(l:List (List Int))(f:List Int->Bool)(h:k < l.length):(l.take (k+1)).all f=((l.take k).all f&&f (l.getD k [])):=by
 rw[tA,bC h,List.all_append,gD,bC h];simp
theorem ISS.get(h:ISS w v es){a:Option Addr}{cap:Nat}(hv:v=.slice a n cap){j:Nat}(M:j < es.length):∃b o u,a=some ⟨b,o,none⟩/\w.cell? ⟨b,o+j,none⟩=some u/\IS w u (es.getD j []):=by
 obtain⟨a',K,e,I⟩:=h;rw[hv]at e;simp only[Value.slice.injEq]at e;obtain⟨rfl,-,-⟩:=e;rcases I with h0|⟨b,o,O,I⟩
 ·omega
 ·obtain⟨u,U,V⟩:=I j M;exact⟨b,o,u,O,U,V⟩
theorem jR(n:Nat)(most:Bool)(I:List (Value×Dem))(x:Nat->Rat)(O:1<=n)(hn:n<=7)(U:I.length<=100)(M:∀D∈I.map Prod.snd,zR n D)(hS:kR n most (I.map Prod.snd) x)(V:Value)(w:World)(ha:DP w V I):
 Cl 18 #[.int .i64 n,V,.int .i64 0,.slice none 0 0,.slice none 0 0,.bool most] w λe w'=>∃v,e=.returned v/\IR w' v (prs n x)/\Bl w w':=by
 have:=jd n most I x O hn U (λp hp=>M _ (List.mem_map.2 ⟨p,hp,rfl⟩)) hS V I.length w 0 (.slice none 0 0) (.slice none 0 0) [] none Oo Oo ha ⟨⟨none,0,rfl,Or.inl rfl⟩,λp hp=>by cases hp⟩ (λ_=>rfl) Ss (λp hp=>by cases hp) ⟨none,0,rfl⟩;refine this.mono ?_;rintro e w' ⟨⟨v,K,rfl,a2,a3⟩,hb⟩;have h1:=a3 (Or.inr (Kf hS));cases K with
 |none=>exact absurd h1 id
 |some b=>exact⟨v,rfl,by rw[<-Yf h1];exact a2.1,hb⟩
structure AT(W:World)(gd:Nat)(v:Value)(up:Bool):Prop where
 typ:∃cur,W.heap[gd]?=some (.cells cur 53 (0,0))
 arr:ArrAt W gd 3 (f3 v (.bool up) (.int .i64 1))
section
variable {W W' w1:World} {gd:Nat} {v v':Value} {up:Bool}
theorem AT.new(W:World)(v:Value)(up:Bool):AT (W.alloc (.cells #[v,.bool up,.int .i64 1] 53)) W.heap.size v up:=⟨⟨_,heap_alloc_new _ _⟩,qz W 3 (f3 v (.bool up) (.int .i64 1)) 53⟩
theorem AT.move(h:AT W gd v up)(e:W'.heap[gd]?=W.heap[gd]?):AT W' gd v up:=⟨by rw[e];exact h.typ,h.arr.move e⟩
theorem AT.lt(h:AT W gd v up):gd < W.heap.size:=zm h.typ
theorem AT.set(h:AT W gd v up)(v':Value):AT (W.setCell ⟨gd,0,none⟩ v') gd v' up:=by
 refine⟨qD h.typ,?_⟩;have:=h.arr.set (i:=0) Oo v';refine⟨λj I=>?_,this.free⟩;rw[this.cell j I];match j,I with
 |0,_=>rfl
 |1,_=>rfl
 |2,_=>rfl
theorem AT.grow{o:Obj}{ys:List Value}(h:AT W gd v up)(K:W.ownsRow B 3 1 v n xs)(I:w1.ownsRow B 3 1 v' k ys)(U:(W.alloc o).grownBy w1 v.ownBlock):
 (w1.cell? ⟨gd,0,none⟩=some v/\w1.frozen? ⟨gd,0,none⟩=false)/\AT (w1.setCell ⟨gd,0,none⟩ v') gd v' up/\(w1.setCell ⟨gd,0,none⟩ v').ownsRow B 3 1 v' k ys:=by
 have V:w1.heap[gd]?=W.heap[gd]?:=qV U h.lt (own_ne K h.typ Dd);have M:=h.move V;refine⟨⟨M.arr.cell 0 Oo,M.arr.free 0 Oo⟩,M.set v',?_⟩;exact qA I (λg O=>bE _ _ _ _ (λe=>own_ne I M.typ Dd (by rw[O];exact congrArg some e.symm)))
end
theorem qAx(h:∀i,i < bag.length->(qG bag es).getD i []≠[]):ql bag es=true:=by
 unfold ql;refine bY.2 (λx M=>?_);obtain⟨k,I,e⟩:=jL (d:=0) M;have K:=h k I;rw[x8 bag es I,e]at K;obtain⟨i,hi⟩:=List.exists_mem_of_ne_nil _ K;obtain⟨O,U⟩:=xh.1 hi;exact List.any_eq_true.2 ⟨es.getD i [],zo O,U⟩
theorem XE(I:k < bag.length):zD ((qG bag es).take (k+1))=zD ((qG bag es).take k)++[⟨plN (λi=>decide (bag.getD k 0∈es.getD i [])) es.length,false,1⟩]:=by
 unfold zD;rw[VV _ _ [] (by rw[zh];exact I),x8 bag es I]
theorem jS(k:Nat):qZ (k+1)=qZ k++[⟨[k],false,0⟩]:=by
 unfold qZ;rw[List.range_succ,mA];rfl
theorem qCG(I:k < es.length)(h:plN (λi=>decide (bag.getD i 0∈es.getD k [])) bag.length≠[]):zb ((qc bag es).take (k+1))=zb ((qc bag es).take k)++[⟨plN (λi=>decide (bag.getD i 0∈es.getD k [])) bag.length,true,1⟩]:=by
 unfold zb;rw[tA,bC (by rw[zP];exact I),List.filter_append,mA]
 have e:(qc bag es)[k]'(by rw[zP];exact I)=plN (λi=>decide (bag.getD i 0∈es.getD k [])) bag.length:=by
  rw[<-vf bag es I,gD,bC (by rw[zP];exact I)];rfl
 simp only[Option.toList_some];rw[e];generalize plN (λi=>decide (bag.getD i 0∈es.getD k [])) bag.length=q at h;cases q with
 |nil=>exact absurd rfl h
 |cons a q=>rfl
theorem qAy(I:k < es.length)(h:plN (λi=>decide (bag.getD i 0∈es.getD k [])) bag.length=[]):zb ((qc bag es).take (k+1))=zb ((qc bag es).take k):=by
 unfold zb;rw[tA,bC (by rw[zP];exact I),List.filter_append,mA]
 have e:(qc bag es)[k]'(by rw[zP];exact I)=plN (λi=>decide (bag.getD i 0∈es.getD k [])) bag.length:=by
  rw[<-vf bag es I,gD,bC (by rw[zP];exact I)];rfl
 simp only[Option.toList_some];rw[e,h];simp
theorem qFq(h:∀i,i < n->x i=0):zs n=rcs (prs n x):=by
 rw[Yf (y:=λ_=>0) h];clear h;induction n with
 |zero=>rfl
 |succ n ih=>rw[YN,ui,ih];rfl
end Go.Proofs.YtkaipapdlnojiaaGreat
