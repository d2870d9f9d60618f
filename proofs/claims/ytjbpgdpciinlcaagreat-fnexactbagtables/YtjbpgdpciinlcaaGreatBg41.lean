import Derived.Laws.AppendOwnNone
import Derived.Test.YtjbpgdpciinlcaaGreatBg39
import Derived.Test.YtjbpgdpciinlcaaGreatBg40
set_option maxHeartbeats 40000000
set_option maxRecDepth 1000000
namespace Go.Proofs.YtjbpgdpciinlcaaGreat
open Go.RowKit
variable {es:List (List Int)}{bag:List Int}{xs:List Value}{B B' b j k n s:Nat}{x:Nat->Rat}{v:Value}{W w:World}
def yK(n:Nat)(all:List Dem)(xs:Nat->Rat)(k:Nat)(ch:List Dem)(best:Option (Nat->Rat))(e:Ending)(w':World):Prop:=
 ∃v best',e=.returned v/\BestAt w' n all v best'/\((QB n xs best∨Compl n all xs k ch)->QB n xs best')
theorem qBg(w:World)(vc:Value)(n:Nat)(ps:List (Value×Dem))(hn1:1<=n)(hn:n<=7)(hl:ps.length=n)(hc:DP w vc ps)(hok:∀p∈ps,zT n p.2)(hk:¬Cov.Kern n ((ps.map Prod.snd).map Dem.dm)):
 Cl 136 #[.int .i64 n,vc] w fun e w'=>e=.returned (.tuple #[.slice none 0 0,.bool false])/\Bl w w':=
 (kC w vc n ps hn1 hn hl hc hok).mono (by
  rintro e w' ⟨h|⟨v,x,rfl,h1,h2,h3,h4⟩,hb⟩
  ·exact⟨h.1,hb⟩
  ·exact absurd h4 hk)
theorem qAd(w:World)(vc:Value)(n:Nat)(ps:List (Value×Dem))(hn1:1<=n)(hn:n<=7)(hl:ps.length=n)(hc:DP w vc ps)(hok:∀p∈ps,zT n p.2)(hk:Cov.Kern n ((ps.map Prod.snd).map Dem.dm)):
 Cl 136 #[.int .i64 n,vc] w fun e w'=>∃v x,e=.returned (.tuple #[v,.bool true])/\IR w' v (prs n x)/\Parts n x/\Xm n (ps.map Prod.snd) x/\Bl w w':=
 (kC w vc n ps hn1 hn hl hc hok).mono (by
  rintro e w' ⟨h|⟨v,x,rfl,h1,h2,h3,h4⟩,hb⟩
  ·exact absurd hk h.2
  ·exact⟨v,x,rfl,h1,h2,h3,hb⟩)
theorem uW{all:List Dem}{xs:Nat->Rat}{ch:List Dem}(hc:ch.length=n)(ho:Xm n ch x)(h:Compl n all xs k ch):∀i,i < n->x i=xs i:=
 fun i hi=>(ho xs (Z5 h hc).1 i hi).symm
theorem Uy{D:Dem}{y:Nat->Rat}(h:∀i,i < n->x i=y i)(hm:D.dm.meets n x):D.dm.meets n y:=by
 unfold Cov.Dm.meets at hm ⊢;rw[<-Cov.at_congr D.dm h];exact hm
theorem BestAt.form{all:List Dem}{b:Option (Nat->Rat)}(h:BestAt w n all v b):∃a lb cap,v=.slice a lb cap/\Hid ((b=none->lb=0)/\(b≠none->lb=n)):=by
 cases b with
 |none=>
  obtain⟨a,cap,e⟩:=h;exact⟨a,0,cap,e,hid ⟨fun _=>rfl,fun h=>absurd rfl h⟩⟩
 |some b=>
  obtain⟨⟨a,cap,e,-⟩,-⟩:=h;rw[qU]at e;exact⟨a,n,cap,e,hid ⟨(fun h=>by cases h),fun _=>rfl⟩⟩
theorem YQ(n:Nat)(most:Bool)(aps:List (Value×Dem))(xs:Nat->Rat)(hn1:1<=n)(hn:n<=7)(hal:aps.length<=100)(haok:∀p∈aps,zT n p.2)(hS:QA n most (aps.map Prod.snd) xs)
 (w:World) (k:Nat) (va vc vb:Value) (cps:List (Value×Dem)) (best:Option (Nat->Rat)) (ha:DP w va aps) (hc:DP w vc cps) (hcl:cps.length=n) (hcok:∀p∈cps,zT n p.2) (hb:BestAt w n (aps.map Prod.snd) vb best):
 Cl 113 #[.int .i64 n,va,.int .i64 k,vc,vb,.bool most] w fun e w'=>yK n (aps.map Prod.snd) xs k (cps.map Prod.snd) best e w'/\Bl w w':=by
 obtain⟨all,hall⟩:∃all,all=aps.map Prod.snd:=⟨_,rfl⟩;rw[<-hall]at hS hb ⊢;obtain⟨ch,hch⟩:∃ch,ch=cps.map Prod.snd:=⟨_,rfl⟩;rw[<-hch];have hchl:ch.length=n:=by rw[hch,lM];exact hcl
 obtain⟨ab,lb,cb,rfl,HLB⟩:=hb.form;have HBst:=hid hb;have HS:=hid hS;by_cases hk:Cov.Kern n (ch.map Dem.dm)
 ·have KS:Hid (Cl 136 #[.int .i64 n,vc] w fun e w'=>∃v x,e=.returned (.tuple #[v,.bool true])/\IR w' v (prs n x)/\Parts n x/\Xm n ch x/\Bl w w'):=hid (by rw[hch]at hk ⊢;exact qAd w vc n cps hn1 hn hcl hc hcok hk);obtain⟨⟨av,cv,rfl,_⟩,_⟩:=hc;obtain⟨⟨aa,ca,rfl,hacell⟩,haeach⟩:=ha;obtain⟨m,hm⟩:∃m,m=aps.length:=⟨_,rfl⟩
  have HA:Hid (∀j,j < m->∃b o u d,aa=some ⟨b,o,none⟩/\all.getD j yN=d/\d∈all/\zT n d/\IntsAt w u d.pl/\w.cell? ⟨b,o+j*3,none⟩=some u/\w.cell? ⟨b,o+j*3+1,none⟩=some (.bool d.up)/\w.cell? ⟨b,o+j*3+2,none⟩=some (.int .i64 d.bd)):=hid (fun j hj=>by
   rcases hacell with h0|⟨b,o,e,hcs⟩
   ·omega
   ·have hmm:aps.getD j pd0∈aps:=xT (by omega);obtain⟨h1,h2,h3⟩:=QH aps j (by omega);exact⟨b,o,(aps.getD j pd0).1,(aps.getD j pd0).2,e,by rw[hall];exact ux aps j,by rw[hall];exact List.mem_map.2 ⟨_,hmm,rfl⟩,haok _ hmm,haeach _ hmm,hcs _ _ h1,hcs _ _ h2,hcs _ _ h3⟩)
  have HAL:Hid (all.length=m):=hid (by rw[hall,lM,hm]);rw[hcl]at KS ⊢;rw[<-hm]at hal ⊢;clear hk hacell haeach haok hcok hb hS hall hch hm;go_enter Tryz.func113,Tryz.ntmps113
  go_upto_region 3 with (first|(go_at_call 136;refine KS.out.mono ?_;rintro e w1 ⟨vx,x,rfl,hx,hp,ho,hb1⟩))
  have HX:=hid hx;have HP:=hid hp;have HO:=hid ho;have HB1:=hid hb1;obtain⟨ax,cx,rfl,-⟩:=hx;rw[qU]at HX ⊢;clear hp ho hb1 KS;go_wp2;go_loopw [33] (fun t wr=>∃j:Nat,j<=m/\t=.int .i64 j/\Hid (Bl w1 wr/\∀i,i < j->(all.getD i yN).dm.meets n x)) (fun t _=>m - (intOf t).toNat)
  case atStart=>exact⟨0,nZ _,rfl,hid ⟨bI _ _,fun i hi=>by omega⟩⟩
  case round=>
   obtain⟨j,hj,rfl,hH⟩:=hrel;have HW:=hid (bt HB1.out hH.out.1);have HMe:=hid hH.out.2;have HW1:=hid hH.out.1;clear hH;by_cases hjm:j < m
   ·have i1:(j:Int) < (m:Int):=by omega
    obtain⟨b,o,u,d,rfl,hd,hdm,hdk,hu,e1,e2,e3⟩:=HA.out j hjm;have c1:=(HW.out.cell (p:=⟨b,o+j*3,none⟩) (bL w _ e1)).trans e1;have c2:=(HW.out.cell (p:=⟨b,o+j*3+1,none⟩) (bL w _ e2)).trans e2;have c3:=(HW.out.cell (p:=⟨b,o+j*3+2,none⟩) (bL w _ e3)).trans e3;have hu':=hu.below HW.out;have KM:Hid (∀W,Bl wr W->Cl 137 #[.slice ax n cx,.agg #[u,.bool d.up,.int .i64 d.bd]] W fun e w'=>e=.returned (.bool (jY n d x))/\Bl W w'):=hid (fun W hW=>Yg W _ u n d x (HX.out.below (bt HW1.out hW)) (hu'.below hW) hdk HP.out);have HD:=hid (And.intro hd hdm);obtain⟨au,cu,rfl,-⟩:=hu;obtain⟨q,hq⟩:∃q,q=d.pl.length:=⟨_,rfl⟩;rw[<-hq]at c1 KM;have hbd:-1<=d.bd/\d.bd<=1:=by rcases hdk.bd with h|h <;> omega
    clear hd hdm hdk e1 e2 e3 hu' hq;cases hmt:jY n d x
    ·rw[hmt]at KM;have hW2:∀o,Bl wr (wr.alloc o):=fun o=>(bI _ _).alloc (nR _) o;have HW2:=hid hW2;have HMT:=hid hmt;clear hmt hW2;go_wp2_with (first|(go_at_call 137;refine(KM.out _ (HW2.out _)).mono ?_;rintro e w2 ⟨rfl,hb2⟩))
     go_ret;have hbx:=bt HW.out (bt (HW2.out _) hb2);refine⟨⟨_,best,rfl,HBst.out.below hbx,fun h=>h.elim id (fun h=>?_)⟩,hbx⟩;exfalso;have h1:=uW hchl HO.out h;have h2:=VZ.2 (Uy (fun i hi=>(h1 i hi).symm) (HS.out.meets d HD.out.2));rw[HMT.out]at h2;cases h2
    ·rw[hmt]at KM;have hW2:∀o,Bl wr (wr.alloc o):=fun o=>(bI _ _).alloc (nR _) o;have HW2:=hid hW2;have HMT:=hid hmt;clear hmt hW2;go_wp2_with (first|(go_at_call 137;refine(KM.out _ (HW2.out _)).mono ?_;rintro e w2 ⟨rfl,hb2⟩))
     go_roundw
     case rel=>exact⟨j+1,by omega,by go_num,hid ⟨bt HW1.out (bt (HW2.out _) hb2),fun i hi=>by
      by_cases e:i=j
      ·rw[e,HD.out.1];exact VZ.1 HMT.out
      ·exact HMe.out i (by omega)⟩⟩
     case measure=>simp[intOf];omega
   ·obtain rfl:m=j:=by omega
    have i1:¬((m:Int) < (m:Int)):=by omega
    have HIn:Hid (InP n all x):=hid (fun D hD=>by
     obtain⟨r,hr,rfl⟩:=kz (d:=yN) hD;exact HMe.out r (by rw[<-HAL.out];exact hr))
    have HXr:=hid (HX.out.below HW1.out);cases best with
    |none=>
     obtain rfl:lb=0:=HLB.out.1 rfl;go_wp2;go_ret;refine⟨⟨_,some x,rfl,⟨HXr.out,HIn.out,HP.out⟩,fun h=>h.elim (fun h=>False.elim h) (fun h=>uW hchl HO.out h)⟩,HW.out⟩
    |some bb=>
     obtain rfl:n=lb:=(HLB.out.2 (by simp)).symm;have hbr:=HBst.out.below HW.out;have i2:¬((n:Int)=0):=by omega
     have i3:((n:Int) == 0)=false:=by simp;omega
     have KB:Hid (Cl 138 #[.slice ax n cx,.slice ab n cb,.bool most] wr fun e w'=>e=.returned (.bool (uC n most x bb))/\Bl wr w'):=hid (XG wr _ _ n most x bb hn HXr.out hbr.1 HP.out hbr.2.2);have HBR:=hid hbr;clear hbr;cases hbf:uC n most x bb
     ·rw[hbf]at KB;have HBF:=hid hbf;clear hbf;go_wp2_with (first|(go_at_call 138;refine KB.out.mono ?_;rintro e w2 ⟨rfl,hb2⟩))
      go_ret;refine⟨⟨_,some bb,rfl,HBR.out.below hb2,fun h=>h.elim id (fun h=>?_)⟩,bt HW.out hb2⟩;exact qBZ HS.out HBR.out.2.1 HBF.out (uW hchl HO.out h)
     ·rw[hbf]at KB;have HBF:=hid hbf;clear hbf;go_wp2_with (first|(go_at_call 138;refine KB.out.mono ?_;rintro e w2 ⟨rfl,hb2⟩))
      go_ret;refine⟨⟨_,some x,rfl,⟨HXr.out.below hb2,HIn.out,HP.out⟩,fun h=>h.elim (fun h=>?_) (fun h=>uW hchl HO.out h)⟩,bt HW.out hb2⟩;exact qBY HS.out HIn.out HBF.out h
 ·have KS:Hid (Cl 136 #[.int .i64 n,vc] w fun e w'=>e=.returned (.tuple #[.slice none 0 0,.bool false])/\Bl w w'):=hid (by rw[hch]at hk;exact qBg w vc n cps hn1 hn hcl hc hcok hk);obtain⟨⟨av,cv,rfl,_⟩,_⟩:=hc;obtain⟨⟨aa,ca,rfl,_⟩,_⟩:=ha;rw[hcl]at KS ⊢;have HK:=hid hk;clear hk haok hcok hb hS hall hch;go_enter Tryz.func113,Tryz.ntmps113
  go_wp2_with (first|(go_at_call 136;refine KS.out.mono ?_;rintro e w1 ⟨rfl,hb1⟩))
  go_ret;refine⟨⟨_,best,rfl,HBst.out.below hb1,fun h=>h.elim id (fun h=>?_)⟩,hb1⟩;exact absurd (Z5 h hchl).2 HK.out
theorem YR(n:Nat)(most:Bool)(aps:List (Value×Dem))(xs:Nat->Rat)(hn:n<=7)(hal:aps.length<=100)
 (w:World) (k:Nat) (hk:k<=aps.length) (va vc vb:Value) (cps:List (Value×Dem)) (best:Option (Nat->Rat)) (ha:DP w va aps) (hc:DP w vc cps) (hcl:cps.length < n) (hb:BestAt w n (aps.map Prod.snd) vb best) (hst:aps.length < k+n - cps.length):
 Cl 113 #[.int .i64 n,va,.int .i64 k,vc,vb,.bool most] w fun e w'=>yK n (aps.map Prod.snd) xs k (cps.map Prod.snd) best e w'/\Bl w w':=by
 obtain⟨ab,lb,cb,rfl,HLB⟩:=hb.form;have HBst:=hid hb;have HC:Hid (¬Compl n (aps.map Prod.snd) xs k (cps.map Prod.snd)):=hid (fun h=>qAV h (by rw[lM,lM];exact hst) (by rw[lM];exact hk));obtain⟨⟨av,cv,rfl,_⟩,_⟩:=hc;obtain⟨⟨aa,ca,rfl,_⟩,_⟩:=ha;clear hb;generalize hm:aps.length=m at *;generalize hq:cps.length=q at *;have i1:¬((q:Int)=(n:Int)):=by omega
 have i2:((q:Int) == (n:Int))=false:=by simp;omega
 have i3:(m:Int) < (k:Int)+(n:Int) - (q:Int):=by omega
 clear hm hq;go_enter Tryz.func113,Tryz.ntmps113
 go_wp2;go_ret;exact⟨⟨_,best,rfl,HBst.out,fun h=>h.elim id (fun h=>absurd h HC.out)⟩,bI _ _⟩
theorem yL{P:Program}{ops:Array Oper}{o:Oper}{a:Act}{K:Act->World->Prop}{Q:Exit->Act->World->Prop}{E:Prop}(hgd:o.guard=none)(s x:Operand)(t:TypeId)
 (ho:o.op=.call { callee:=.builtin .append,args:=#[s,x],argTypes:=#[t,t] })
 (base:Nat) (e:TypeId) (i:TypeInfo) (size:Nat) (ht:P.underlying t=some (.slice e)) (hi:P.info? e=some i)
 (v:Value) (n:Nat) (xs:List Value) (hs:a.eval s=v) (hown:w.ownsRow base e size v n xs) (hx:a.eval x=.slice none 0 0)
 (h:K (a.put o.dst v) w):if Region.wanted o (yielded ops a.tmps)=true then Oper.wp P o a w K Q else E:=by
 have hw:Region.wanted o (yielded ops a.tmps)=true:=by simp[Region.wanted,hgd]
 rw[if_pos hw];have hrun:=run_append_owned_none (P:=P) (w:=w) base t o.type e i size ht hi v n xs hown;unfold Oper.wp;simp[execOp,ho,resolve,invoke,builtin,hs,hx,hrun,Result.andThen];exact h
theorem uD(b o j:Nat):(⟨b,o,none⟩:Addr).add j=⟨b,o+j,none⟩:=by
 unfold Addr.add;split <;> simp_all
theorem uX(w:World)(x y z:Value)(t:TypeId):∀j u,[x,y,z][j]?=some u->(w.alloc (.cells #[x,y,z] t)).cell? ((⟨w.heap.size,0,none⟩:Addr).add j)=some u:=by
 intro j u hj;match j,hj with
 |0,hj=>simp at hj;subst hj;simp[Addr.add]
 |1,hj=>simp at hj;subst hj;simp[Addr.add]
 |2,hj=>simp at hj;subst hj;simp[Addr.add]
theorem Tryz.infoDem:(Tryz.prog.info? 145).map (fun i=>(i.zero,i.size,i.bytes))=some (some (.agg #[.slice none 0 0,.bool false,.int .i64 0]),3,40):=by kernel_rfl
def eD:Obj:=.cells #[] 145
def dD(u:Value)(d:Dem):Obj:=.cells #[u,.bool d.up,.int .i64 d.bd] 145
section
variable {w:World} {u:Value} {d:Dem}
theorem VD:(w.alloc eD).ownsRow w.heap.size 145 3 (.slice (some ⟨w.heap.size,0,none⟩) 0 0) 0 []:=oM w #[] 0 (nR _) (by decide) rfl
theorem qDt:((w.alloc eD).alloc (dD u d)).ownsRow w.heap.size 145 3 (.slice (some ⟨w.heap.size,0,none⟩) 0 0) 0 []:=VD.alloc _
theorem qDu:((w.alloc (dD u d)).alloc eD).ownsRow w.heap.size 145 3 (.slice (some ⟨w.heap.size+1,0,none⟩) 0 0) 0 []:=by
 have:=oM (base:=w.heap.size) (e:=145) (size:=3) (w.alloc (dD u d)) #[] 0 (by simp) (by decide) rfl;rw[show(w.alloc (dD u d)).heap.size=w.heap.size+1 by simp]at this;exact this
theorem qDv:∀j x,[u,.bool d.up,.int .i64 d.bd][j]?=some x->((w.alloc (dD u d)).alloc eD).cell? ((⟨w.heap.size,0,none⟩:Addr).add j)=some x:=fun j x hj=>by
 have:=uX w u (.bool d.up) (.int .i64 d.bd) 145 j x hj;rw[uD]at this ⊢;rw[World.cell?_alloc_past _ _ _ (by simp)];exact this
theorem qDw:∀j x,[u,.bool d.up,.int .i64 d.bd][j]?=some x->((w.alloc eD).alloc (dD u d)).cell? ((⟨w.heap.size+1,0,none⟩:Addr).add j)=some x:=by
 have:=uX (w.alloc eD) u (.bool d.up) (.int .i64 d.bd) 145;rw[show(w.alloc eD).heap.size=w.heap.size+1 by simp]at this;exact this
end
theorem Qn{y a:Nat}(h:(Value.slice (some ⟨y,0,none⟩) a b).ownBlock=some k):y=k:=by
 simpa[Value.ownBlock]using h
theorem Xy{w3:World}{x y z:Value}{g:Nat}(hn:∀j u,[x,y,z][j]?=some u->W.cell? ((⟨s,0,none⟩:Addr).add j)=some u)(hs:s < W.heap.size)(hne:s≠g)(hg:W.drew.grownBy w3 (Value.slice (some ⟨g,0,none⟩) 0 k).ownBlock):∀j u,[x,y,z][j]?=some u->w3.cell? ((⟨s,0,none⟩:Addr).add j)=some u:=by
 intro j u hj;have h1:=hn j u hj;rw[uD]at h1 ⊢;exact(bE (w:=W) (a:=⟨s,0+j,none⟩) (hg.block _ hs (by simpa[Value.ownBlock]using hne))).trans h1
theorem Jj{w2:World}{cps:List (Value×Dem)}{p:Value×Dem}(hc:∀q∈cps,IntsAt w q.1 q.2.pl)(hp:IntsAt w p.1 p.2.pl)(hb:Bl w w2)(hown:w2.ownsRow B 145 3 v (cps.length+1) (dcs cps++[p.1,.bool p.2.up,.int .i64 p.2.bd])):DP w2 v (cps++[p]):=by
 refine qAu (B:=B) (by rw[Va,lA];exact hown) (fun q hq=>?_);rcases List.mem_append.1 hq with h|h
 ·exact(hc q h).below hb
 ·rw[List.mem_singleton.1 h];exact hp.below hb
theorem YS(n:Nat)(most:Bool)(aps:List (Value×Dem))(xs:Nat->Rat)(hn:n<=7)(hal:aps.length<=100)(haok:∀p∈aps,zT n p.2)
 (w:World) (k:Nat) (va vc vb:Value) (cps:List (Value×Dem)) (best:Option (Nat->Rat)) (ha:DP w va aps) (hc:DP w vc cps) (hcn:cps=[]->vc=.slice none 0 0) (hcl:cps.length < n) (hcok:∀p∈cps,zT n p.2) (hb:BestAt w n (aps.map Prod.snd) vb best) (hgo:k+n - cps.length<=aps.length)
 (hrec:∀(w:World) (vc vb:Value) (cps:List (Value×Dem)) (best:Option (Nat->Rat)),DP w va aps->DP w vc cps->(cps=[]->vc=.slice none 0 0)->cps.length<=n->(∀p∈cps,zT n p.2)->BestAt w n (aps.map Prod.snd) vb best->
  Cl 113 #[.int .i64 n,va,.int .i64 ((k:Int)+1),vc,vb,.bool most] w fun e w'=>yK n (aps.map Prod.snd) xs (k+1) (cps.map Prod.snd) best e w'/\Bl w w'):
 Cl 113 #[.int .i64 n,va,.int .i64 k,vc,vb,.bool most] w fun e w'=>yK n (aps.map Prod.snd) xs k (cps.map Prod.snd) best e w'/\Bl w w':=by
 obtain⟨i0,hi,hz0,hz1,hz2⟩:=info_parts Tryz.infoDem;have hka:k < aps.length:=by omega
 obtain⟨pk,hpk⟩:∃p,p=aps.getD k pd0:=⟨_,rfl⟩;have hpm:pk∈aps:=by rw[hpk];exact xT hka
 have HST:Hid (Compl n (aps.map Prod.snd) xs k (cps.map Prod.snd)->Compl n (aps.map Prod.snd) xs (k+1) ((cps++[pk]).map Prod.snd)∨Compl n (aps.map Prod.snd) xs (k+1) (cps.map Prod.snd)):=hid (fun h=>by
  have:=qAU (by rw[lM];exact hka) h;rw[ux,<-hpk]at this;rw[mA];exact this)
 obtain⟨ab,lb,cb,rfl,HLB⟩:=hb.form;have HA:=hid ha;have HC:=hid hc;have HCN:=hid hcn;have HBst:=hid hb;have HREC:=hid hrec
 have HCOK:Hid (∀p∈cps++[pk],zT n p.2):=hid (fun p hp=>by
  rcases List.mem_append.1 hp with h|h
  ·exact hcok p h
  ·rw[List.mem_singleton.1 h];exact haok pk hpm)
 have HCO:=hid hcok;have HCE:=hid hc.each;have HPE:=hid (ha.each pk hpm);obtain⟨⟨av,cv,rfl,hccell⟩,_⟩:=hc;obtain⟨⟨aa,ca,rfl,hacell⟩,_⟩:=ha
 have hcs':∃b o,aa=some ⟨b,o,none⟩/\w.cell? ⟨b,o+k*3,none⟩=some pk.1/\w.cell? ⟨b,o+k*3+1,none⟩=some (.bool pk.2.up)/\w.cell? ⟨b,o+k*3+2,none⟩=some (.int .i64 pk.2.bd):=by
  rcases hacell with h0|⟨b,o,e,hcs⟩
  ·omega
  ·obtain⟨h1,h2,h3⟩:=QH aps k hka;rw[<-hpk]at h1 h2 h3;exact⟨b,o,e,hcs _ _ h1,hcs _ _ h2,hcs _ _ h3⟩
 obtain⟨b,o,rfl,e1,e2,e3⟩:=hcs';have FX:Hid (∀W,Bl w W->W.cell? ⟨b,o+k*3,none⟩=some pk.1/\W.cell? ⟨b,o+k*3+1,none⟩=some (.bool pk.2.up)/\W.cell? ⟨b,o+k*3+2,none⟩=some (.int .i64 pk.2.bd)):=hid (fun W hW=>⟨(hW.cell (p:=⟨b,o+k*3,none⟩) (bL w _ e1)).trans e1,(hW.cell (p:=⟨b,o+k*3+1,none⟩) (bL w _ e2)).trans e2,(hW.cell (p:=⟨b,o+k*3+2,none⟩) (bL w _ e3)).trans e3⟩);have HONE:=hid (qC5 HC.out);obtain⟨u,d⟩:=pk;obtain⟨au,cu,hau,_⟩:=HPE.out;simp only at hau
 have HUO:Hid (∀x∈[u,.bool d.up,.int .i64 d.bd],x.oneCell'=true):=hid (fun x hx=>by
  simp only[List.mem_cons,List.not_mem_nil,or_false]at hx;rcases hx with rfl|rfl|rfl
  ·rw[hau];rfl
  ·rfl
  ·rfl)
 subst hau;generalize d.pl.length=lu at *;have HLD:=hid (Jr cps);clear hpk hpm hrec hcok haok hb hacell hcn;generalize hm:aps.length=m at *;generalize hq:cps.length=q at *;have i1:¬((q:Int)=(n:Int)):=by omega
 have i2:((q:Int) == (n:Int))=false:=by simp;omega
 have i3:¬((m:Int) < (k:Int)+(n:Int) - (q:Int)):=by omega
 have i4:(k:Int) < (m:Int):=by omega
 have HM:=hid hm;have HQ:=hid hq;clear hm hq;go_enter Tryz.func113,Tryz.ntmps113
 go_upto_region 16 with fail
 go_cut [17] (fun v wx=>Hid (Bl w wx/\DP wx v (cps++[((.slice au lu cu:Value),d)])))
 case first=>
  have b1:Bl w (w.alloc eD):=(bI _ _).alloc (nR _) _;have b2:Bl w ((w.alloc eD).alloc (dD (.slice au lu cu) d)):=b1.alloc b1.size _;have o1:=VD (w:=w);have o2:=qDt (w:=w) (u:=.slice au lu cu) (d:=d);have n2:=qDw (w:=w) (u:=.slice au lu cu) (d:=d);have b4:Bl w (w.alloc (dD (.slice au lu cu) d)):=(bI _ _).alloc (nR _) _;have b3:Bl w ((w.alloc (dD (.slice au lu cu) d)).alloc eD):=b4.alloc b4.size _;have o3:=qDu (w:=w) (u:=.slice au lu cu) (d:=d);have n3:=qDv (w:=w) (u:=.slice au lu cu) (d:=d);have hs3:((w.alloc (dD (.slice au lu cu) d)).alloc eD).heap.size=w.heap.size+2:=by simp
  have hle3:w.heap.size<=((w.alloc (dD (.slice au lu cu) d)).alloc eD).heap.size:=b3.size;have hs2:((w.alloc eD).alloc (dD (.slice au lu cu) d)).heap.size=w.heap.size+2:=by simp
  have hle1:w.heap.size<=(w.alloc eD).heap.size:=b1.size;have hle2:w.heap.size<=((w.alloc eD).alloc (dD (.slice au lu cu) d)).heap.size:=b2.size;obtain⟨p1,p2,p3⟩:=FX.out _ b1;by_cases hq0:q=0
  ·subst hq0;have hnil:cps=[]:=List.length_eq_zero_iff.1 HQ.out;have hv:=HCN.out hnil;simp only[Value.slice.injEq]at hv;obtain⟨rfl,-,rfl⟩:=hv;have HNIL:=hid hnil;clear hccell;unfold eD dD at *
   go_region_law (first
    |(refine yL (by rfl) _ _ _ (by rfl) w.heap.size 145 i0 3 Tryz.underlying143 hi _ 0 [] (by rfl) o1 (by rfl) ?_)
    |(refine yL (by rfl) _ _ _ (by rfl) w.heap.size 145 i0 3 Tryz.underlying143 hi _ 0 [] (by rfl) o2 (by rfl) ?_)
    |(refine yL (by rfl) _ _ _ (by rfl) w.heap.size 145 i0 3 Tryz.underlying143 hi _ 0 [] (by rfl) o3 (by rfl) ?_)
    |(refine step_append_lies _ (by rfl) _ _ _ (by rfl) w.heap.size 145 i0 (.agg #[.slice none 0 0,.bool false,.int .i64 0]) 3 40 Tryz.underlying143 hi hz0 hz1 hz2 rfl (by decide) _ 0 [] (by rfl) o2 ⟨w.heap.size+1,0,none⟩ 1 1 [.slice au lu cu,.bool d.up,.int .i64 d.bd] (by rfl) (by rfl) n2 HUO.out (by decide) (by decide) (by decide) hle2 _ rfl ?_;intro g3 cp3 w3 hown3 hgrow3 hat3 hlt3;have hb3:Bl w w3:=b2.drew.grown hgrow3 hle2 (fun k e=>by have:=Qn e;omega))
    |(refine step_append_lies _ (by rfl) _ _ _ (by rfl) w.heap.size 145 i0 (.agg #[.slice none 0 0,.bool false,.int .i64 0]) 3 40 Tryz.underlying143 hi hz0 hz1 hz2 rfl (by decide) _ 0 [] (by rfl) o3 ⟨w.heap.size,0,none⟩ 1 1 [.slice au lu cu,.bool d.up,.int .i64 d.bd] (by rfl) (by rfl) n3 HUO.out (by decide) (by decide) (by decide) hle3 _ rfl ?_;intro g3 cp3 w3 hown3 hgrow3 hat3 hlt3;have hb3:Bl w w3:=b3.drew.grown hgrow3 hle3 (fun k e=>by have:=Qn e;omega))
    |fail)
   all_goals
    go_wp2_with fail
    go_meet
    refine hid ⟨hb3,Jj HCE.out HPE.out hb3 (B:=w.heap.size) ?_⟩
    rw[HNIL.out]
    exact hown3
  ·have hq1:0 < q:=by omega
   have hcs':∃b2 o2,av=some ⟨b2,o2,none⟩/\∀j u,(dcs cps)[j]?=some u->w.cell? ⟨b2,o2+j,none⟩=some u:=by
    rcases hccell with h0|h
    ·omega
    ·exact h
   obtain⟨bc,oc,rfl,hcs⟩:=hcs';have hq7:q<=7:=by omega
   have hsrc:∀j u,(dcs cps)[j]?=some u->((w.alloc eD).alloc (dD (.slice au lu cu) d)).cell? ((⟨bc,oc,none⟩:Addr).add j)=some u:=fun j u hj=>by
    have h1:=hcs j u hj;rw[uD];exact(b2.cell (p:=⟨bc,oc+j,none⟩) (bL w _ h1)).trans h1
   have hsr1:∀j u,(dcs cps)[j]?=some u->(w.alloc eD).cell? ((⟨bc,oc,none⟩:Addr).add j)=some u:=fun j u hj=>by
    have h1:=hcs j u hj;rw[uD];exact(b1.cell (p:=⟨bc,oc+j,none⟩) (bL w _ h1)).trans h1
   have hld:=HLD.out
   have hsr3:∀j u,(dcs cps)[j]?=some u->((w.alloc (dD (.slice au lu cu) d)).alloc eD).cell? ((⟨bc,oc,none⟩:Addr).add j)=some u:=fun j u hj=>by
    have h1:=hcs j u hj;rw[uD];exact(b3.cell (p:=⟨bc,oc+j,none⟩) (bL w _ h1)).trans h1
   have hbe3:∀w3,((w.alloc (dD (.slice au lu cu) d)).alloc eD).drew.grownBy w3 (Value.slice (some ⟨w.heap.size+1,0,none⟩) 0 0).ownBlock->Bl w w3:=fun w3 h=>b3.drew.grown h hle3 (fun k e=>by have:=Qn e;omega);have hbe1:∀w3,(w.alloc eD).drew.grownBy w3 (Value.slice (some ⟨w.heap.size,0,none⟩) 0 0).ownBlock->Bl w w3:=fun w3 h=>b1.drew.grown h hle1 (fun k e=>by have:=Qn e;omega);have hbe2:∀w3,((w.alloc eD).alloc (dD (.slice au lu cu) d)).drew.grownBy w3 (Value.slice (some ⟨w.heap.size,0,none⟩) 0 0).ownBlock->Bl w w3:=fun w3 h=>b2.drew.grown h hle2 (fun k e=>by have:=Qn e;omega);clear hccell hcs;unfold eD dD at *
   go_region_law (first
    |(refine step_append_lies _ (by rfl) _ _ _ (by rfl) w.heap.size 145 i0 (.agg #[.slice none 0 0,.bool false,.int .i64 0]) 3 40 Tryz.underlying143 hi hz0 hz1 hz2 rfl (by decide) _ 0 [] (by rfl) o1 ⟨bc,oc,none⟩ q cv (dcs cps) (by rfl) hld hsr1 HONE.out hq1 (by unfold maxLen;omega) (by omega) hle1 _ rfl ?_;intro g3 cp3 w3 hown3 hgrow3 hat3 hlt3;simp only[Nat.zero_add,List.nil_append]at hown3;have hb3:=hbe1 w3 hgrow3;obtain⟨r1,r2,r3⟩:=FX.out w3 hb3)
    |(refine step_append_lies _ (by rfl) _ _ _ (by rfl) w.heap.size 145 i0 (.agg #[.slice none 0 0,.bool false,.int .i64 0]) 3 40 Tryz.underlying143 hi hz0 hz1 hz2 rfl (by decide) _ 0 [] (by rfl) o2 ⟨bc,oc,none⟩ q cv (dcs cps) (by rfl) hld hsrc HONE.out hq1 (by unfold maxLen;omega) (by omega) hle2 _ rfl ?_;intro g3 cp3 w3 hown3 hgrow3 hat3 hlt3;simp only[Nat.zero_add,List.nil_append]at hown3;have hb3:=hbe2 w3 hgrow3;have nB:=Xy n2 (by rw[hs2];omega) (by omega) hgrow3)
    |(refine step_append_lies _ (by rfl) _ _ _ (by rfl) w.heap.size 145 i0 (.agg #[.slice none 0 0,.bool false,.int .i64 0]) 3 40 Tryz.underlying143 hi hz0 hz1 hz2 rfl (by decide) _ 0 [] (by rfl) o3 ⟨bc,oc,none⟩ q cv (dcs cps) (by rfl) hld hsr3 HONE.out hq1 (by unfold maxLen;omega) (by omega) hle3 _ rfl ?_;intro g3 cp3 w3 hown3 hgrow3 hat3 hlt3;simp only[Nat.zero_add,List.nil_append]at hown3;have hb3:=hbe3 w3 hgrow3;have nC:=Xy n3 (by rw[hs3];omega) (by omega) hgrow3)
    |(refine step_append_lies _ (by rfl) _ _ _ (by rfl) w.heap.size 145 i0 (.agg #[.slice none 0 0,.bool false,.int .i64 0]) 3 40 Tryz.underlying143 hi hz0 hz1 hz2 rfl (by decide) _ _ _ (by rfl) (hown3.alloc _) ⟨w3.heap.size,0,none⟩ 1 1 [.slice au lu cu,.bool d.up,.int .i64 d.bd] (by rfl) (by rfl) (uX w3 _ _ _ _) HUO.out (by decide) (by unfold maxLen;omega) (by omega) (bK hb3.size (by simp)) _ rfl ?_;intro g4 cp4 w4 hown4 hgrow4 hat4 hlt4;have hb4:Bl w w4:=(hb3.alloc hb3.size _).grown hgrow4 (bK hb3.size (by simp)) (fun k e=>(hown3.lt k e).1))
    |(refine step_append_lies _ (by rfl) _ _ _ (by rfl) w.heap.size 145 i0 (.agg #[.slice none 0 0,.bool false,.int .i64 0]) 3 40 Tryz.underlying143 hi hz0 hz1 hz2 rfl (by decide) _ _ _ (by rfl) hown3 ⟨w.heap.size+1,0,none⟩ 1 1 [.slice au lu cu,.bool d.up,.int .i64 d.bd] (by rfl) (by rfl) nB HUO.out (by decide) (by unfold maxLen;omega) (by omega) hb3.size _ rfl ?_;intro g4 cp4 w4 hown4 hgrow4 hat4 hlt4;have hb4:Bl w w4:=hb3.grown hgrow4 hb3.size (fun k e=>(hown3.lt k e).1))
    |(refine step_append_lies _ (by rfl) _ _ _ (by rfl) w.heap.size 145 i0 (.agg #[.slice none 0 0,.bool false,.int .i64 0]) 3 40 Tryz.underlying143 hi hz0 hz1 hz2 rfl (by decide) _ _ _ (by rfl) hown3 ⟨w.heap.size,0,none⟩ 1 1 [.slice au lu cu,.bool d.up,.int .i64 d.bd] (by rfl) (by rfl) nC HUO.out (by decide) (by unfold maxLen;omega) (by omega) hb3.size _ rfl ?_;intro g4 cp4 w4 hown4 hgrow4 hat4 hlt4;have hb4:Bl w w4:=hb3.grown hgrow4 hb3.size (fun k e=>(hown3.lt k e).1))
    |fail)
   all_goals
    go_wp2_with fail
    go_meet
    refine hid ⟨hb4,Jj HCE.out HPE.out hb4 (B:=w.heap.size) ?_⟩
    rw[HQ.out]
    simpa using hown4
 case rest=>
  have HX:=hcut;obtain⟨⟨a5,c5,e5,-⟩,-⟩:=HX.out.2;rw[lA,HQ.out]at e5;simp only[List.length_cons,List.length_nil,Nat.zero_add]at e5;subst e5
  have K1:Hid (Cl 113 #[.int .i64 n,.slice (some ⟨b,o,none⟩) m ca,.int .i64 ((k:Int)+1),.slice a5 (q+1) c5,.slice ab lb cb,.bool most] wc fun e w'=>yK n (aps.map Prod.snd) xs (k+1) ((cps++[((.slice au lu cu:Value),d)]).map Prod.snd) best e w'/\Bl wc w'):=
   hid (HREC.out wc _ _ _ best (HA.out.below HX.out.1) HX.out.2 (fun h=>by simp at h) (by rw[lA,HQ.out];simp;omega) HCOK.out (HBst.out.below HX.out.1))
  go_upto_region 18 with (first|(go_at_call 113;refine K1.out.mono ?_;rintro e w1 ⟨⟨v1,best1,rfl,hbe1,hst1⟩,hb1⟩))
  have hW1:=bt HX.out.1 hb1
  have K2:Hid (Cl 113 #[.int .i64 n,.slice (some ⟨b,o,none⟩) m ca,.int .i64 ((k:Int)+1),.slice av q cv,v1,.bool most] w1 fun e w'=>yK n (aps.map Prod.snd) xs (k+1) (cps.map Prod.snd) best1 e w'/\Bl w1 w'):=
   hid (HREC.out w1 _ _ _ best1 (HA.out.below hW1) (HC.out.below hW1) HCN.out (by rw[HQ.out];omega) HCO.out hbe1)
  have HS1:=hid hst1;have HW1:=hid hW1;clear hst1 hb1 hbe1 hW1;go_wp2_with (first|(go_at_call 113;refine K2.out.mono ?_;rintro e w2 ⟨⟨v2,best2,rfl,hbe2,hst2⟩,hb2⟩))
  go_ret;refine⟨⟨_,best2,rfl,hbe2,fun h=>hst2 ?_⟩,bt HW1.out hb2⟩;rcases h with h|h
  ·exact Or.inl (HS1.out (Or.inl h))
  ·rcases HST.out h with h1|h1
   ·exact Or.inl (HS1.out (Or.inr h1))
   ·exact Or.inr h1
theorem uz(n:Nat)(most:Bool)(aps:List (Value×Dem))(xs:Nat->Rat)(hn1:1<=n)(hn:n<=7)(hal:aps.length<=100)(haok:∀p∈aps,zT n p.2)(hS:QA n most (aps.map Prod.snd) xs)(va:Value):
 ∀(f:Nat) (w:World) (k:Nat) (vc vb:Value) (cps:List (Value×Dem)) (best:Option (Nat->Rat)),aps.length - k<=f->k<=aps.length->DP w va aps->DP w vc cps->(cps=[]->vc=.slice none 0 0)->cps.length<=n->(∀p∈cps,zT n p.2)->BestAt w n (aps.map Prod.snd) vb best->
  Cl 113 #[.int .i64 n,va,.int .i64 (k:Nat),vc,vb,.bool most] w fun e w'=>yK n (aps.map Prod.snd) xs k (cps.map Prod.snd) best e w'/\Bl w w'
 |f,w,k,vc,vb,cps,best,hf,hk,ha,hc,hcn,hcl,hcok,hb=>by
  by_cases h1:cps.length=n
  ·exact YQ n most aps xs hn1 hn hal haok hS w k va vc vb cps best ha hc h1 hcok hb
  ·by_cases h2:aps.length < k+n - cps.length
   ·exact YR n most aps xs hn hal w k hk va vc vb cps best ha hc (by omega) hb h2
   ·match f,hf with
    |0,hf=>omega
    |f+1,hf=>
     refine YS n most aps xs hn hal haok w k va vc vb cps best ha hc hcn (by omega) hcok hb (by omega) (fun w vc vb cps best ha hc hcn hcl hcok hb=>?_);have:=uz n most aps xs hn1 hn hal haok hS va f w (k+1) vc vb cps best (by omega) (by omega) ha hc hcn hcl hcok hb;rw[show((k+1:Nat):Int)=(k:Int)+1 by omega]at this;exact this
def QL(l:List Nat):List Value:=(l.map Int.ofNat).map (Value.int .i64)
structure DL(W:World)(B:Nat)(v:Value)(ps:List (Value×Dem)):Prop where
 own:W.ownsRow B 145 3 v ps.length (dcs ps)
 each:∀p∈ps,W.ownsRow B 3 1 p.1 p.2.pl.length (QL p.2.pl)
theorem qCH{l:List Nat}(h:W.ownsRow B 3 1 v l.length (QL l)):IntsAt W v l:=by
 have he:W.ownsRow B 3 1 v (l.map Int.ofNat).length ((l.map Int.ofNat).map (Value.int .i64)):=by rw[lM];exact h
 obtain⟨a,cp,e,hi2⟩:=qW he;rw[lM]at e hi2;refine⟨a,cp,e,fun j hj=>?_⟩;rcases hi2 with h0|⟨b,o,ea,hcell⟩
 ·omega
 ·refine⟨b,o,ea,(hcell j hj).trans ?_⟩;rw[gD,bJ,gD,gE hj];rfl
section
variable {W W' w3:World} {B:Nat} {v v' u:Value} {ps qs:List (Value×Dem)} {p:Value×Dem} {o:Obj}
theorem DL.below(h:DL W B v ps)(hb:Bl W W'):DL W' B v ps:=⟨qB h.own hb,fun p hp=>qB (h.each p hp) hb⟩
theorem DL.dp(h:DL W B v ps):DP W v ps:=qAu h.own (fun p hp=>qCH (h.each p hp))
theorem DL.nil(W:World):DL (W.alloc eD) W.heap.size (.slice (some ⟨W.heap.size,0,none⟩) 0 0) []:=⟨VD,fun p hp=>by cases hp⟩
theorem DL.base(h:DL W B v ps)(hB:B'<=B):DL W B' v ps:=⟨qF h.own hB,fun p hp=>qF (h.each p hp) hB⟩
theorem zU(hg:(W.alloc o).grownBy w3 v.ownBlock)(hb:b < W.heap.size)(hne:some b≠v.ownBlock):w3.heap[b]?=W.heap[b]?:=
 (hg.block b (by simp;omega) hne).trans (Below.heap_alloc _ _ _ hb)
theorem DL.step(h:DL W B v ps)(hp:W.ownsRow B 3 1 p.1 p.2.pl.length (QL p.2.pl))(hown:w3.ownsRow B 145 3 v' (ps.length+1) (dcs ps++[p.1,.bool p.2.up,.int .i64 p.2.bd]))(hg:(W.alloc o).grownBy w3 v.ownBlock):DL w3 B v' (ps++[p]):=by
 have hint:∀{x:Value} {k:Nat} {xs:List Value},W.ownsRow B 3 1 x k xs->w3.ownsRow B 3 1 x k xs:=fun hx=>
  qC hx (fun g hgx=>zU hg ((hx.lt g hgx).2) (fun e=>own_ne h.own (qY hx hgx) (by decide) e))
 refine⟨by rw[Va,lA];exact hown,fun q hq=>?_⟩;rcases List.mem_append.1 hq with h1|h1
 ·exact hint (h.each q h1)
 ·rw[List.mem_singleton.1 h1];exact hint hp
end
theorem Yf{α β:Type}(f:α->β)(l:List α)(d:α)(h:k < l.length):(l.take (k+1)).map f=(l.take k).map f++[f (l.getD k d)]:=by
 rw[tA,gE h,mA,gD,gE h];rfl
theorem qBF(p:Nat->Bool)(k:Nat):(plc p k).map (Value.int .i64)=QL (plN p k):=rfl
theorem qDP(p:Nat->Bool)(k:Nat):(plc p k).length=(plN p k).length:=by rw[qDm,lM]
theorem ISS.get(h:ISS w v es){a:Option Addr}{cap:Nat}(hv:v=.slice a n cap)(hj:j < es.length):∃b o u,a=some ⟨b,o,none⟩/\w.cell? ⟨b,o+j,none⟩=some u/\IS w u (es.getD j []):=by
 obtain⟨a',cap',e,hc⟩:=h;rw[hv]at e;simp only[Value.slice.injEq]at e;obtain⟨rfl,-,-⟩:=e;rcases hc with h0|⟨b,o,ea,hc⟩
 ·omega
 ·obtain⟨u,h1,h2⟩:=hc j hj;exact⟨b,o,u,ea,h1,h2⟩
theorem JB(n:Nat)(most:Bool)(aps:List (Value×Dem))(x:Nat->Rat)(hn1:1<=n)(hn:n<=7)(hal:aps.length<=100)(haok:∀D∈aps.map Prod.snd,zT n D)(hS:QA n most (aps.map Prod.snd) x)(va:Value)(w:World)(ha:DP w va aps):
 Cl 113 #[.int .i64 n,va,.int .i64 0,.slice none 0 0,.slice none 0 0,.bool most] w fun e w'=>∃v,e=.returned v/\IR w' v (prs n x)/\Bl w w':=by
 have:=uz n most aps x hn1 hn hal (fun p hp=>haok _ (List.mem_map.2 ⟨p,hp,rfl⟩)) hS va aps.length w 0 (.slice none 0 0) (.slice none 0 0) [] none (by omega) (by omega) ha ⟨⟨none,0,rfl,Or.inl rfl⟩,fun p hp=>by cases hp⟩ (fun _=>rfl) (by simp) (fun p hp=>by cases hp) ⟨none,0,rfl⟩;refine this.mono ?_;rintro e w' ⟨⟨v,best',rfl,hbe,hst⟩,hb⟩;have h1:=hst (Or.inr (JW hS));cases best' with
 |none=>exact absurd h1 id
 |some b=>exact⟨v,rfl,by rw[<-qAt h1];exact hbe.1,hb⟩
structure AT(W:World)(gd:Nat)(v:Value)(up:Bool):Prop where
 typ:∃cur,W.heap[gd]?=some (.cells cur 145 (0,0))
 arr:ArrAt W gd 3 (f3 v (.bool up) (.int .i64 1))
section
variable {W W' w1:World} {gd:Nat} {v v':Value} {up:Bool}
theorem AT.new(W:World)(v:Value)(up:Bool):AT (W.alloc (.cells #[v,.bool up,.int .i64 1] 145)) W.heap.size v up:=⟨⟨_,heap_alloc_new _ _⟩,qt W 3 (f3 v (.bool up) (.int .i64 1)) 145⟩
theorem AT.move(h:AT W gd v up)(e:W'.heap[gd]?=W.heap[gd]?):AT W' gd v up:=⟨by rw[e];exact h.typ,h.arr.move e⟩
theorem AT.lt(h:AT W gd v up):gd < W.heap.size:=xF h.typ
theorem AT.set(h:AT W gd v up)(v':Value):AT (W.setCell ⟨gd,0,none⟩ v') gd v' up:=by
 refine⟨ql h.typ,?_⟩;have:=h.arr.set (i:=0) (by omega) v';refine⟨fun j hj=>?_,this.free⟩;rw[this.cell j hj];match j,hj with
 |0,_=>rfl
 |1,_=>rfl
 |2,_=>rfl
theorem AT.grow{o:Obj}{ys:List Value}(h:AT W gd v up)(hown:W.ownsRow B 3 1 v n xs)(hown':w1.ownsRow B 3 1 v' k ys)(hg:(W.alloc o).grownBy w1 v.ownBlock):
 (w1.cell? ⟨gd,0,none⟩=some v/\w1.frozen? ⟨gd,0,none⟩=false)/\AT (w1.setCell ⟨gd,0,none⟩ v') gd v' up/\(w1.setCell ⟨gd,0,none⟩ v').ownsRow B 3 1 v' k ys:=by
 have hk:w1.heap[gd]?=W.heap[gd]?:=zU hg h.lt (own_ne hown h.typ (by decide));have h1:=h.move hk;refine⟨⟨h1.arr.cell 0 (by omega),h1.arr.free 0 (by omega)⟩,h1.set v',?_⟩;exact qC hown' (fun g hgx=>bD _ _ _ _ (fun e=>own_ne hown' h1.typ (by decide) (by rw[hgx];exact congrArg some e.symm)))
end
theorem K9(hk:k < bag.length):zn ((qM bag es).take (k+1))=zn ((qM bag es).take k)++[⟨plN (fun i=>decide (bag.getD k 0∈es.getD i [])) es.length,false,1⟩]:=by
 unfold zn;rw[Yf _ _ [] (by rw[xz];exact hk),vi bag es hk]
theorem JC(k:Nat):xO (k+1)=xO k++[⟨[k],false,0⟩]:=by
 unfold xO;rw[List.range_succ,mA];rfl
theorem qCQ{x:Int}(hj:j < es.length):zN (es.take (j+1)) x=(zN (es.take j) x||decide (x∈es.getD j [])):=by
 unfold zN;rw[tA,gE hj,List.any_append,gD,gE hj];simp
theorem qDT{k:Int}:zb k es=(decide (0<=k)&&decide (k<=6)&&decide (es.length<=7)&&es.all (zh k)&&(List.range k.toNat).all fun v=>zN es (v:Int)):=by
 unfold zb zL;by_cases h6:k<=6
 case neg=>rw[decide_eq_false h6];simp
 have:es.all (zh k)=(es.all qP&&es.all (zR k)):=by
  rw[show zh k=fun l=>qP l&&zR k l from funext fun l=>UN h6 l];induction es with
  |nil=>rfl
  |cons e es ih=>
   simp only[List.all_cons,ih];cases qP e <;> cases zR k e <;> simp
 rw[this];cases decide (0<=k) <;> cases decide (k<=6) <;> cases decide (es.length<=7) <;> cases es.all qP <;> cases es.all (zR k) <;> rfl
theorem Zt(w:World)(ve:Value)(k:Int)(es:List (List Int))(h:ISS w ve es)(hl:qQ es):
 Cl 65 #[.int .i64 k,ve] w fun e w'=>e=.returned (.bool (zb k es))/\w'=w:=by
 obtain⟨a,cap,rfl,hc⟩:=h;obtain⟨hl1,hl2⟩:=hl;obtain⟨res,hres⟩:∃r,r=zb k es:=⟨_,rfl⟩;rw[<-hres];rw[qDT]at hres;have HR:=hid hres;have HC:=hid hc;have HL:=hid hl2;clear hc hl2 hres;by_cases hk0:0<=k
 case neg=>
  have hf:res=false:=by rw[HR.out,decide_eq_false hk0];simp
  subst hf;generalize es.length=n at *;go_enter Tryz.func65,Tryz.ntmps65
  go_wp2_with fail
  refine(yD _ _ _ _ (by omega)).mono ?_;rintro e w1 ⟨rfl,hw1⟩;subst w1;go_wp2_with fail
  go_ret;exact⟨rfl,rfl⟩
 by_cases hk6:k<=6
 case neg=>
  have hf:res=false:=by rw[HR.out,decide_eq_false hk6];simp
  subst hf;generalize es.length=n at *;go_enter Tryz.func65,Tryz.ntmps65
  go_wp2_with fail
  refine(yE _ _ _ _ (by omega) (by omega)).mono ?_;rintro e w1 ⟨rfl,hw1⟩;subst w1;go_wp2_with fail
  go_ret;exact⟨rfl,rfl⟩
 by_cases h7:es.length<=7
 case neg=>
  have hf:res=false:=by rw[HR.out,decide_eq_false h7];simp
  subst hf;have i1:(7:Int) < (es.length:Int):=by omega
  generalize es.length=n at *;go_enter Tryz.func65,Tryz.ntmps65
  go_wp2_with fail
  refine(qz _ _ _ _ (by omega) (by omega)).mono ?_;rintro e w1 ⟨rfl,hw1⟩;subst w1;go_wp2_with fail
  go_ret;exact⟨rfl,rfl⟩
 rw[decide_eq_true hk0,decide_eq_true hk6,decide_eq_true h7]at HR;simp only[Bool.true_and]at HR
 have HF1:Hid (∀j,j < es.length->zh k (es.getD j [])=false->res=false):=hid fun j hj e=>by
  rw[HR.out,zu (zh k) [] es j hj e];simp
 have HF2:Hid (∀v,v < k.toNat->zN es (v:Int)=false->res=false):=hid fun v hv e=>by
  rw[HR.out,qZ hv e];simp
 have HT:Hid ((∀j,j < es.length->zh k (es.getD j [])=true)->(∀v,v < k.toNat->zN es (v:Int)=true)->res=true):=hid fun h1 h2=>by
  rw[HR.out,yy (zh k) [] es h1,qa h2];rfl
 have HA:Hid (∀x j,j < es.length->zN (es.take (j+1)) x=(zN (es.take j) x||decide (x∈es.getD j []))):=hid fun x j hj=>qCQ hj;have HA0:Hid (∀x,zN (es.take 0) x=false):=hid fun x=>rfl;have HAN:Hid (∀x,zN (es.take es.length) x=zN es x):=hid fun x=>by simp
 clear HR;have d7:¬((7:Int) < (es.length:Int)):=by omega
 obtain⟨n,hn⟩:∃n,n=es.length:=⟨_,rfl⟩;rw[<-hn]at HF1 HT hl1 HC HA HAN d7 ⊢;clear hn h7;go_enter Tryz.func65,Tryz.ntmps65
 go_wp2_with fail
 refine(qz _ _ _ _ (by omega) (by omega)).mono ?_;rintro e w1 ⟨rfl,hw1⟩;subst w1;go_wp2_with fail
 go_loop [21] (fun t=>∃j:Nat,j<=n/\t=.int .i64 j/\Hid (∀i,i < j->zh k (es.getD i [])=true)) (fun t=>n - (intOf t).toNat)
 case atStart=>exact⟨0,nZ _,rfl,hid (fun i hi=>by omega)⟩
 case round=>
  obtain⟨j,hj,rfl,hok⟩:=hrel;by_cases hjn:j < n
  ·have i1:(j:Int) < (n:Int):=by omega
   rcases HC.out with h0|⟨b,o,rfl,hcell⟩
   ·omega
   ·obtain⟨u,c1,hu⟩:=hcell j hjn;have HK:=hid (jI w k hk0 hk6 u (es.getD j []) hu (HL.out j));obtain⟨a1,cap1,rfl,-⟩:=hu;have fin:=HF1.out j hjn
    have nxt:zh k (es.getD j [])=true->Hid (∀i,i < j+1->zh k (es.getD i [])=true):=fun e i hi=>by
     by_cases e2:i=j
     ·rw[e2];exact e
     ·exact hok.out i (by omega)
    clear hcell hok;generalize (es.getD j []).length=m at *;generalize zh k (es.getD j [])=y at *;cases y
    ·obtain rfl:=fin rfl;clear nxt;go_wp2_with fail
     refine HK.out.mono ?_;rintro e w1 ⟨rfl,hw1⟩;subst w1;go_wp2_with fail
     go_ret;exact⟨rfl,rfl⟩
    ·have hf:=nxt rfl;clear fin nxt;go_wp2_with fail
     refine HK.out.mono ?_;rintro e w1 ⟨rfl,hw1⟩;subst w1;go_wp2_with fail
     go_round
     case rel=>exact⟨j+1,by omega,by go_num,hf⟩
     case measure=>simp[intOf];omega
  ·obtain rfl:j=n:=by omega
   have HT2:Hid ((∀v,v < k.toNat->zN es (v:Int)=true)->res=true):=hid (HT.out hok.out);have i1:¬((j:Int) < (j:Int)):=by omega
   clear hok HT HF1;obtain⟨q,hq⟩:∃q:Nat,q=k.toNat:=⟨_,rfl⟩;obtain rfl:k=(q:Int):=by omega
   rw[<-hq]at HT2 HF2;clear hq hk0;have hq6:q<=6:=by omega
   clear hk6;go_wp2_with fail
   go_loop [7] (fun t=>∃v:Nat,v<=q/\t=.int .i64 v/\Hid (∀i:Nat,i < v->zN es (i:Int)=true)) (fun t=>q - (intOf t).toNat)
   case atStart=>exact⟨0,nZ _,rfl,hid (fun i hi=>by omega)⟩
   case round=>
    obtain⟨v,hv,rfl,hok⟩:=hrel;by_cases hvq:v < q
    ·have i2:(v:Int) < (q:Int):=by omega
     have fin:=HF2.out v hvq
     have nxt:zN es (v:Int)=true->Hid (∀i:Nat,i < v+1->zN es (i:Int)=true):=fun e i hi=>by
      by_cases e2:i=v
      ·rw[e2];exact e
      ·exact hok.out i (by omega)
     have HAv:=hid (HA.out (v:Int));have HA0v:=hid (HA0.out (v:Int));have hANv:=HAN.out (v:Int);rw[<-hANv]at fin nxt;have FIN:=hid fin;have NXT:=hid nxt;clear hok fin nxt hANv;go_wp2_with fail
     go_loop [8,37] (fun s t=>∃i:Nat,i<=j/\t=.int .i64 i/\s=.bool (zN (es.take i) (v:Int))) (fun _ t=>j - (intOf t).toNat)
     case atStart=>exact⟨0,nZ _,rfl,by rw[HA0v.out]⟩
     case round=>
      obtain⟨i,hi,rfl,rfl⟩:=hrel;by_cases hin:i < j
      ·have i3:(i:Int) < (j:Int):=by omega
       rcases HC.out with h0|⟨b,o,rfl,hcell⟩
       ·omega
       ·obtain⟨u,c1,hu⟩:=hcell i hin;have HK:=hid (zY w u (es.getD i []) (v:Int) hu (HL.out i));obtain⟨a1,cap1,rfl,-⟩:=hu;have hs:=HAv.out i hin;clear hcell;generalize (es.getD i []).length=m at *;generalize decide ((v:Int)∈es.getD i [])=f at *;generalize zN (es.take i) (v:Int)=s at *;cases s
        ·go_wp2_with fail
         refine HK.out.mono ?_;rintro e w1 ⟨rfl,hw1⟩;subst w1;go_wp2_with fail
         go_round
         case rel=>exact⟨i+1,by omega,by go_num,by rw[hs];rfl⟩
         case measure=>simp[intOf];omega
        ·go_wp2_with fail
         go_round
         case rel=>exact⟨i+1,by omega,by go_num,by rw[hs];rfl⟩
         case measure=>simp[intOf];omega
      ·obtain rfl:i=j:=by omega
       have i3:¬((i:Int) < (i:Int)):=by omega
       have fin:=FIN.out;have nxt:=NXT.out;clear FIN NXT;generalize zN (es.take i) (v:Int)=s at *;cases s
       ·obtain rfl:=fin rfl;clear nxt;go_wp2_with fail
        go_ret;exact⟨rfl,rfl⟩
       ·have hf:=nxt rfl;clear fin nxt;go_wp2_with fail
        go_round
        case rel=>exact⟨v+1,by omega,by go_num,hf⟩
        case measure=>simp[intOf];omega
    ·obtain rfl:v=q:=by omega
     obtain rfl:=HT2.out hok.out;have i2:¬((v:Int) < (v:Int)):=by omega
     clear hok;go_wp2_with fail
     go_ret;exact⟨rfl,rfl⟩
theorem Q9(w:World)(vb vp vh vw:Value)(x n d:Int)(bs:List (List Int))(ps:List Int)(hb:ISS w vb bs)(hl:qQ bs)(hl12:bs.length<=12)(hp:IS w vp ps)(hok:jk ps bs.length):
 Cl 67 #[.agg #[vb,vp,vh,vw,.int .i64 n,.int .i64 d],.int .i64 x] w fun e w'=>e=.returned (.bool (decide (qx x bs ps bs.length=1)))/\Bl w w':=by
 have HB0:Hid (Bl w (w.alloc (.cells #[vb,vp,vh,vw,.int .i64 n,.int .i64 d] 39))):=hid ((bI _ _).alloc (nR _) _);have c0:(w.alloc (.cells #[vb,vp,vh,vw,.int .i64 n,.int .i64 d] 39)).cell? ⟨w.heap.size,0,none⟩=some vb:=by rw[cA _ _ _ _ rfl];rfl
 have c1:(w.alloc (.cells #[vb,vp,vh,vw,.int .i64 n,.int .i64 d] 39)).cell? ⟨w.heap.size,1,none⟩=some vp:=by rw[cA _ _ _ _ rfl];rfl
 obtain⟨W,hW⟩:∃W,W=w.alloc (.cells #[vb,vp,vh,vw,.int .i64 n,.int .i64 d] 39):=⟨_,rfl⟩;rw[<-hW]at HB0 c0 c1;obtain⟨hpl,hpo⟩:=hok;have HP0:=hp.below HB0.out;have HBS:=hb.below HB0.out;clear hb hp;obtain⟨a,cap,rfl,hc⟩:=HBS;obtain⟨a2,cap2,rfl,hc2⟩:=HP0;rw[hpl]at hc2 c1;obtain⟨hl1,hl2⟩:=hl;have HC:=hid hc;have HC2:=hid hc2;have HL:=hid hl2;have HPO:=hid hpo;have HT:Hid (∀i,qx x bs ps (i+1)=qx x bs ps i+if jh x bs ps i then 1 else 0):=hid fun i=>rfl;have HTL:=hid (ji x bs ps);have HTA:Hid (∀i,jh x bs ps i=(decide (x∈bs.getD i [])&&!(decide (0<=ps.getD i 0)&&decide (x∈bs.getD (ps.getD i 0).toNat [])))):=hid fun i=>rfl;have HT0:Hid (qx x bs ps 0=0):=hid rfl;obtain⟨m,hm⟩:∃m,m=bs.length:=⟨_,rfl⟩;have hpl2:ps.length=m:=by omega
 rw[<-hm]at HC HC2 HPO hl1 hl12 c0 c1 hW ⊢;rw[hpl2]at hW ⊢;clear hc hc2 hl2 hpo hpl hm hpl2;generalize qx x bs ps=TN at *;go_enter Tryz.func67,Tryz.ntmps67
 go_upto_region 1 with fail
 rw[<-hW];clear hW;go_wp2_with fail
 go_loopw [5,11] (fun s t wr=>∃j:Nat,j<=m/\t=.int .i64 j/\s=.int .i64 (TN j)/\Bl W wr) (fun _ t _=>m - (intOf t).toNat)
 case atStart=>exact⟨0,nZ _,rfl,by rw[HT0.out];rfl,bI _ _⟩
 case round=>
  obtain⟨j,hj,rfl,rfl,hnx⟩:=hrel;by_cases hjn:j < m
  ·have i1:(j:Int) < (m:Int):=by omega
   rcases HC.out with h0|⟨b,o,rfl,hcell⟩
   ·omega
   rcases HC2.out with h0|⟨b2,o2,rfl,hcell2⟩
   ·omega
   have HCE:=hid hcell;obtain⟨u,e1',hu⟩:=hcell j hjn;have e1:=qI hnx e1';have e2:=qI hnx (hcell2 j hjn);have y0:=qI hnx c0;have y1:=qI hnx c1;have HK1:Hid (∀W',Bl wr W'->_):=hid fun W' hb=>zY W' u (bs.getD j []) x (hu.below (bt hnx hb)) (HL.out j);obtain⟨a3,cap3,rfl,-⟩:=hu;have hpo:=HPO.out j hjn;have hta:=HTA.out j;have htt:=HT.out j;have htl:=HTL.out j;have hbr:Bl wr wr:=bI _ _;clear hcell hcell2 e1';generalize (bs.getD j []).length=lj at *;generalize decide (x∈bs.getD j [])=f1 at *;generalize ps.getD j 0=y at *;generalize jh x bs ps j=tp at *;cases f1
   ·rw[Bool.false_and]at hta;subst hta;go_wp2_with fail
    go_quiet (first|(go_at_call_of 46 (Value.slice a3 lj cap3);exact Calls.quiet_of_same (HK1.out _ (below_drewN hbr _)))|(go_at_call_of 46 (Value.slice a3 lj cap3);exact Calls.quiet_of_same (HK1.out _ hbr)))
    go_wp2_with fail
    go_roundw
    case rel=>exact⟨j+1,by omega,by go_num,by rw[htt];simp,below_drewN hnx _⟩
    case measure=>simp[intOf];omega
   rw[Bool.true_and]at hta;rcases hpo with rfl|⟨hy0,hym⟩
   ·rw[show(decide ((0:Int)<=-1))=false by decide,Bool.false_and,Bool.not_false]at hta;subst hta;go_wp2_with fail
    go_quiet (first|(go_at_call_of 46 (Value.slice a3 lj cap3);exact Calls.quiet_of_same (HK1.out _ (below_drewN hbr _)))|(go_at_call_of 46 (Value.slice a3 lj cap3);exact Calls.quiet_of_same (HK1.out _ hbr)))
    go_wp2_with fail
    go_roundw
    case rel=>exact⟨j+1,by omega,by go_num,by rw[htt];simp,below_drewN hnx _⟩
    case measure=>simp[intOf];omega
   ·obtain⟨z,rfl⟩:∃z:Nat,y=(z:Int):=⟨y.toNat,by omega⟩;have hzm:z < m:=by omega
    obtain⟨u2,e3',hu2⟩:=HCE.out z hzm;have e3:=qI hnx e3';rw[show((z:Int)).toNat=z by omega]at hta;have HK2:Hid (∀W',Bl wr W'->_):=hid fun W' hb=>zY W' u2 (bs.getD z []) x (hu2.below (bt hnx hb)) (HL.out z);obtain⟨a4,cap4,rfl,-⟩:=hu2;clear e3';generalize (bs.getD z []).length=lz at *;generalize decide (x∈bs.getD z [])=f2 at *;rw[decide_eq_true hy0,Bool.true_and]at hta;have hd:decide ((z:Int) < 0)=false:=by simp
    have hzi:(z:Int) < (m:Int):=by omega
    cases f2
    ·subst hta;go_wp2_with fail
     go_quiet (first|(go_at_call_of 46 (Value.slice a3 lj cap3);exact Calls.quiet_of_same (HK1.out _ (below_drewN hbr _)))|(go_at_call_of 46 (Value.slice a3 lj cap3);exact Calls.quiet_of_same (HK1.out _ hbr))|(go_at_call_of 46 (Value.slice a4 lz cap4);exact Calls.quiet_of_same (HK2.out _ (below_drewN hbr _)))|(go_at_call_of 46 (Value.slice a4 lz cap4);exact Calls.quiet_of_same (HK2.out _ hbr)))
     go_wp2_with fail
     go_roundw
     case rel=>exact⟨j+1,by omega,by go_num,by rw[htt];simp,below_drewN hnx _⟩
     case measure=>simp[intOf];omega
    ·subst hta;go_wp2_with fail
     go_quiet (first|(go_at_call_of 46 (Value.slice a3 lj cap3);exact Calls.quiet_of_same (HK1.out _ (below_drewN hbr _)))|(go_at_call_of 46 (Value.slice a3 lj cap3);exact Calls.quiet_of_same (HK1.out _ hbr))|(go_at_call_of 46 (Value.slice a4 lz cap4);exact Calls.quiet_of_same (HK2.out _ (below_drewN hbr _)))|(go_at_call_of 46 (Value.slice a4 lz cap4);exact Calls.quiet_of_same (HK2.out _ hbr)))
     go_wp2_with fail
     go_roundw
     case rel=>exact⟨j+1,by omega,by go_num,by rw[htt];simp,below_drewN hnx _⟩
     case measure=>simp[intOf];omega
  ·obtain rfl:j=m:=by omega
   have i1:¬((j:Int) < (j:Int)):=by omega
   have htl:=HTL.out j;go_wp2_with fail
   go_ret;refine⟨qG ?_,bt HB0.out hnx⟩;by_cases ht:TN j=1
   ·rw[ht];rfl
   ·rw[decide_eq_false ht];simp;omega
theorem qEa{e:TypeId}(h:w.ownsRow B e s v n xs):∃a cap,v=.slice a n cap:=by
 rcases h.2 with ⟨rfl,hn⟩|⟨g,cap,cur,rfl,_⟩
 ·exact⟨none,0,by rw[hn]⟩
 ·exact⟨_,cap,rfl⟩
structure RL(W:World)(B:Nat)(v:Value)(vs:List Value)(ls:List (List Int)):Prop where
 own:W.ownsRow B 24 1 v ls.length vs
 len:vs.length=ls.length
 each:∀i,i < ls.length->W.ownsRow B 3 1 (vs.getD i undef) (ls.getD i []).length ((ls.getD i []).map (Value.int .i64))
section
variable {W W' w3:World} {B:Nat} {v v' u:Value} {vs:List Value} {ls:List (List Int)} {l:List Int} {o:Obj}
theorem RL.below(h:RL W B v vs ls)(hb:Bl W W'):RL W' B v vs ls:=⟨qB h.own hb,h.len,fun i hi=>qB (h.each i hi) hb⟩
theorem RL.nil(W:World):RL (W.alloc (.cells #[] 24)) W.heap.size (.slice (some ⟨W.heap.size,0,none⟩) 0 0) [] []:=⟨oM W #[] 0 (nR _) (by decide) rfl,rfl,fun i hi=>by simp at hi⟩
theorem RL.base(h:RL W B v vs ls)(hB:B'<=B):RL W B' v vs ls:=⟨qF h.own hB,h.len,fun i hi=>qF (h.each i hi) hB⟩
theorem RL.step(h:RL W B v vs ls)(hu:W.ownsRow B 3 1 u l.length (l.map (Value.int .i64)))(hown:w3.ownsRow B 24 1 v' (ls.length+1) (vs++[u]))(hg:(W.alloc o).grownBy w3 v.ownBlock):RL w3 B v' (vs++[u]) (ls++[l]):=by
 have hint:∀{x:Value} {k:Nat} {xs:List Value},W.ownsRow B 3 1 x k xs->w3.ownsRow B 3 1 x k xs:=fun hx=>
  qC hx (fun g hgx=>zU hg ((hx.lt g hgx).2) (fun e=>own_ne h.own (qY hx hgx) (by decide) e))
 refine⟨by rw[lA];exact hown,by rw[lA,lA,h.len];rfl,fun i hi=>?_⟩;rw[lA,lS]at hi;by_cases e:i < ls.length
 ·have:=hint (h.each i e);rw[gD,aL (by rw[h.len];exact e),gD (l:=ls++[l]),aL e,<-gD,<-gD];exact this
 ·have e1:(vs++[u]).getD i undef=u:=by rw[gD,bN (by rw[h.len];omega),show i - vs.length=0 by rw[h.len];omega];rfl
  have e2:(ls++[l]).getD i []=l:=by rw[gD,bN (by omega),show i - ls.length=0 by omega];rfl
  rw[e1,e2];exact hint hu
theorem RL.other(h:RL W B v vs ls)(hv:W.ownsRow B 145 3 u n xs)(hg:(W.alloc o).grownBy w3 u.ownBlock):RL w3 B v vs ls:=
 ⟨qC h.own (fun g hgx=>zU hg ((h.own.lt g hgx).2) (fun e=>own_ne hv (qY h.own hgx) (by decide) e)),h.len,fun i hi=>
  qC (h.each i hi) (fun g hgx=>zU hg (((h.each i hi).lt g hgx).2) (fun e=>own_ne hv (qY (h.each i hi) hgx) (by decide) e))⟩
theorem DL.far{ps:List (Value×Dem)}(h:DL W B u ps)(hv:W.ownsRow B 24 1 v n xs)(hg:(W.alloc o).grownBy w3 v.ownBlock):DL w3 B u ps:=
 ⟨qC h.own (fun g hgx=>zU hg ((h.own.lt g hgx).2) (fun e=>own_ne hv (qY h.own hgx) (by decide) e)),fun q hq=>
  qC (h.each q hq) (fun g hgx=>zU hg (((h.each q hq).lt g hgx).2) (fun e=>own_ne hv (qY (h.each q hq) hgx) (by decide) e))⟩
theorem RL.get(h:RL W B v vs ls){i:Nat}(hi:i < ls.length):∃g cap,v=.slice (some ⟨g,0,none⟩) ls.length cap/\W.cell? ⟨g,i,none⟩=some (vs.getD i undef)/\IS W (vs.getD i undef) (ls.getD i []):=by
 rcases h.own.2 with ⟨-,h2⟩|⟨g,cap,cur,rfl,hb',hc,hn,-,-,ht⟩
 ·omega
 ·refine⟨g,cap,rfl,?_,qW (h.each i hi)⟩;have hlen:=h.len;rw[cell_of_row _ _ _ _ _ _ hc,gD,gE (by omega),Option.getD_some,<-gE (by omega:i < vs.length),<-ht,List.getElem?_take_of_lt (by omega),Array.getElem?_toList]
structure ZR(W:World)(g:Nat):Prop where
 blk:W.heap[g]?=some (.cells #[.int .i64 0,.int .i64 0] 37 (0,0))
variable {g:Nat}
theorem ZR.typ(h:ZR W g):∃cur,W.heap[g]?=some (.cells cur 37 (0,0)):=⟨_,h.blk⟩
theorem ZR.move(h:ZR W g)(e:W'.heap[g]?=W.heap[g]?):ZR W' g:=⟨e.trans h.blk⟩
theorem ZR.lt(h:ZR W g):g < W.heap.size:=xF h.typ
theorem ZR.below(h:ZR W g)(hb:Bl W W'):ZR W' g:=h.move (hb.block g h.lt)
theorem ZR.alloc(h:ZR W g)(o:Obj):ZR (W.alloc o) g:=h.move (Below.heap_alloc _ _ _ h.lt)
theorem ZR.grow(h:ZR W g)(hown:W.ownsRow B 145 3 v n xs)(hg:(W.alloc o).grownBy w3 v.ownBlock):ZR w3 g:=h.move (zU hg h.lt (own_ne hown h.typ (by decide)))
theorem ZR.grow2(h:ZR W g)(hown:W.ownsRow B 24 1 v n xs)(hg:(W.alloc o).grownBy w3 v.ownBlock):ZR w3 g:=h.move (zU hg h.lt (own_ne hown h.typ (by decide)))
theorem ZR.two(h:ZR W g):Two W g 0 0:=by
 refine⟨?_,?_,?_,?_⟩
 ·rw[cell_of_row _ _ _ _ _ _ h.blk];rfl
 ·rw[cell_of_row _ _ _ _ _ _ h.blk];rfl
 ·unfold World.frozen?;rw[h.blk];simp
 ·unfold World.frozen?;rw[h.blk];simp
end
def zf(bag:List Int)(es:List (List Int))(k:Nat):List (List Int):=((List.range k).filter (yf bag es)).map fun i=>qL bag (es.getD i [])
theorem qAL(h:yf bag es k=true):zf bag es (k+1)=zf bag es k++[qL bag (es.getD k [])]:=by
 simp[zf,List.range_succ,List.filter_append,h]
theorem JU(h:yf bag es k=false):zf bag es (k+1)=zf bag es k:=by
 simp[zf,List.range_succ,List.filter_append,h]
theorem qBO(bag:List Int)(es:List (List Int))(k:Nat):(zf bag es k).length<=k:=by
 unfold zf;rw[lM];exact bK (List.length_filter_le _ _) (by simp)
theorem qAM(bag:List Int)(es:List (List Int)):zf bag es es.length=zc bag es:=rfl
def yh(bag:List Int)(es:List (List Int))(i j:Nat):Bool:=decide (0 < (qL bag (es.getD i [])).length)&&(List.range j).all fun j=>!jl bag es i j
theorem qAN(i j:Nat):yh bag es i (j+1)=(yh bag es i j&&!jl bag es i j):=by
 unfold yh;rw[List.range_succ,List.all_append];simp[Bool.and_assoc]
theorem Uc(bag e:List Int):(qL bag e).length<=e.length:=List.length_filter_le _ _
end Go.Proofs.YtjbpgdpciinlcaaGreat
