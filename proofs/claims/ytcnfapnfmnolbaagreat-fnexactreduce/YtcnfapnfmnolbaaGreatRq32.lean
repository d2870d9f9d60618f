import Derived.Test.YtcnfapnfmnolbaaGreatRq29
import Derived.Test.YtcnfapnfmnolbaaGreatRq31
set_option maxHeartbeats 40000000
set_option maxRecDepth 1000000
namespace Go.Proofs.YtcnfapnfmnolbaaGreat
open Go.RowKit
variable {o:LI}{tl:List TbV}{B t:Nat}{e:TypeId}{W:World}
def mkX(h r v n0:Nat)(tl:List TbV)(o:LI)(f:Nat->LI->Nat)(g0 g1:Nat->LI->Value)(hv:Value)(uh:List Value):JX where
 h:=h
 r:=r
 v:=v
 n0:=n0
 nT:=tl.length
 H:=λt=>qO o (sdT o (tl.getD t qA)).vars
 D:=λt p=>p=[]∨∃r∈(sdT o (tl.getD t qA)).rows,p <+:r
 N:=λt=>nN (sdT o (tl.getD t qA)).vars.length (sdT o (tl.getD t qA)).rows
 f:=f
 g0:=g0
 g1:=g1
 hv:=hv
 uh:=uh
 hav:=xP tl o
theorem kC(h:t<tl.length):tl.getD t qA∈tl:=by rw[gD,gE h];exact gM _
theorem JY(h:t<tl.length):sdO o (sdT o (tl.getD t qA))∈uD tl o:=List.mem_map.2 ⟨_,List.mem_map.2 ⟨_,kC h,rfl⟩,rfl⟩
theorem qCo{s:Sd}(h:s∈uD tl o):∃t,t<tl.length/\s=sdO o (sdT o (tl.getD t qA)):=by
 obtain⟨m,I,rfl⟩:=List.mem_map.1 h;obtain⟨t,K,rfl⟩:=List.mem_map.1 I;obtain⟨i,hi,rfl⟩:=gO K;exact⟨i,hi,by rw[gD,gE hi];rfl⟩
section
variable {h r v n0:Nat} {tl:List TbV} {o:LI} {f:Nat->LI->Nat} {g0 g1:Nat->LI->Value} {hv:Value} {uh:List Value}
theorem X5(p:LI):(mkX h r v n0 tl o f g0 g1 hv uh).Hd p↔Hld (uD tl o) p:=by
 constructor;intro I s hs;obtain⟨t,K,rfl⟩:=qCo hs;exact I t K;intro I t K;exact I _ (JY K)
theorem qDr(p:LI)(I:(mkX h r v n0 tl o f g0 g1 hv uh).Hd p)(y:Int)(K:y∈nxJ tl o p):(mkX h r v n0 tl o f g0 g1 hv uh).Hd (p++[y]):=(X5 _).2 (((X5 _).1 I).snoc (kE tl o) K)
theorem JZ(o:LI)(t:TbV):(sdT o t).vars=shr o t.vs:=rfl
theorem qCp{p q:Nat->Bool}{k:Nat}(h:∀i,i<k->p i=q i):plc p k=plc q k:=by
 unfold plc;congr 1;exact List.filter_congr λi hi=>h i (List.mem_range.1 hi)
theorem qCq{l:LL}(h:l≠[]):srt l≠[]:=λe=>h (by
 cases l with
 |nil=>rfl
 |cons a l=>
  have:a∈srt (a::l):=((zu _ (a::l) (nR _)).2 a).2 List.mem_cons_self;rw[e]at this;cases this)
theorem qDs(ht:∀t∈tl,TvJ t)(V:∀t∈tl,t.rows≠[])(hc:Qq tl o)(hl:tl.length<=1000)(a3:o.length<=1000):JMx (mkX h r v n0 tl o f g0 g1 hv uh) (nxJ tl o) o.length:=by
 have hT:∀t,t<tl.length->TM (sdT o (tl.getD t qA)).rows (λp=>p=[]∨∃r∈(sdT o (tl.getD t qA)).rows,p <+:r) (nN (sdT o (tl.getD t qA)).vars.length (sdT o (tl.getD t qA)).rows):=λt _=>qBu (vO o _).sl (vO o _).len;refine⟨λt I q hq y=>(hT t I).mem q hq y,λt I q hq=>(hT t I).asc q hq,λt I q _=>?_,hl,a3,by show(xP tl o).length=_;unfold xP;rw[lM],λk M=>?_,λk M=>?_,λp hp hd t I hH=>?_,λp hp hd g hg hH=>?_⟩;have K:=qC0 (sdT o (tl.getD t qA)).vars.length (sdT o (tl.getD t qA)).rows q;have O:=km o (tl.getD t qA);have h4:=(ht _ (kC I)).n;show(nN _ _ q).length<=1000000;omega
 ·show(xP tl o).getD k []=plc (λt=>qO o (sdT o (tl.getD t qA)).vars k) tl.length;unfold xP;rw[gD,bK,gE M];show plc _ (tl.map TbV.vs).length=_;rw[lM];refine qCp λi hi=>?_;rw[JZ,uE M];have e1:(tl.map TbV.vs).getD i []=(tl.getD i qA).vs:=by
   rw[gD,bK,gE hi,gD,gE hi];rfl
  have e2:o.getD k 0=o[k]:=by rw[gD,gE M];rfl
  rw[e1,e2]
 obtain⟨t,I,K⟩:=hc k M;obtain⟨i,hi,rfl⟩:=gO I;refine⟨i,hi,?_⟩;show qO o (sdT o (tl.getD i qA)).vars k=true;rw[JZ,uE M,gD,gE hi];exact decide_eq_true K
 ·have a4:(prt (qO o (sdT o (tl.getD t qA)).vars) p).length<(sdT o (tl.getD t qA)).vars.length:=(qGZ hp).2 hH;have hD:prt (qO o (sdT o (tl.getD t qA)).vars) p=[]∨∃r∈(sdT o (tl.getD t qA)).rows,prt (qO o (sdT o (tl.getD t qA)).vars) p <+:r:=hd t I;have hR:∃r∈(sdT o (tl.getD t qA)).rows,prt (qO o (sdT o (tl.getD t qA)).vars) p <+:r:=by
   rcases hD with K|K;have:(sdT o (tl.getD t qA)).rows≠[]:=qCq (by simpa using V _ (kC I));obtain⟨r,U⟩:=List.exists_mem_of_ne_nil _ this;exact⟨r,U,by rw[K];exact List.nil_prefix⟩;exact K
  obtain⟨r,U,tail,e⟩:=hR;have a5:=(vO o (tl.getD t qA)).len r U;cases tail with
  |nil=>rw[List.append_nil]at e;rw[e]at a4;omega
  |cons y tail=>
   have:y∈nN (sdT o (tl.getD t qA)).vars.length (sdT o (tl.getD t qA)).rows (prt (qO o (sdT o (tl.getD t qA)).vars) p):=((hT t I).mem _ hD y).2 (Or.inr ⟨r,U,tail,by rw[<-e];simp⟩);exact List.length_pos_of_mem this
 have hh:Hld (uD tl o) p:=(X5 (h:=h) (r:=r) (v:=v) (n0:=n0) (f:=f) (g0:=g0) (g1:=g1) (hv:=hv) (uh:=uh) p).1 hd;have:=ZS (kE tl o) (JY hg) hh (by exact hH);show xf (uD tl o) p=_;rw[this];unfold vN;refine List.filter_congr λy _=>?_;rw[Bool.eq_iff_iff,jP,aT];constructor;intro I t K;obtain⟨i,hi,O,rfl⟩:=yX.1 K;exact decide_eq_true (I _ (JY hi) O);intro I s hs K;obtain⟨t,O,rfl⟩:=qCo hs;exact of_decide_eq_true (I (t:Int) (yX.2 ⟨t,O,K,rfl⟩))
end
theorem TR.iff{D I:LI->Prop}{N K:LI->LI}{f:LI->Nat}{g0 g1:LI->Value}(h:TR W B D N N f g0 g1)(O:∀p,D p↔I p)(M:∀p,D p->K p=N p):TR W B I K K f g0 g1:=by
 have e:D=I:=funext λp=>propext (O p);subst e;exact h.same M M
theorem TrO.tr{t:TbV}{c:Option Addr}(h:TrO B W (sdT o t).rows c):((sdT o t).rows=[]/\c=none)∨((sdT o t).rows≠[]/\∃f g0 g1,c=some (az (f []) 0)/\TR W B (λp=>p=[]∨∃r∈(sdT o t).rows,p <+:r) (nN (sdT o t).vars.length (sdT o t).rows) (nN (sdT o t).vars.length (sdT o t).rows) f g0 g1):=by
 rcases h with h|⟨O,D,N,f,g0,g1,U,I,V,h5⟩;exact Or.inl h;have M:TM (sdT o t).rows (λp=>p=[]∨∃r∈(sdT o t).rows,p <+:r) (nN (sdT o t).vars.length (sdT o t).rows):=qBu (vO o t).sl (vO o t).len;refine Or.inr ⟨O,f,g0,g1,U,V.iff I.dom λp K=>?_⟩;refine XF (M.asc p ((I.dom p).1 K)) (I.asc p K) λy=>?_;rw[M.mem p ((I.dom p).1 K) y,I.mem p K y];exact(I.dom _).symm
open Meet
theorem qBp{P:Program}{t:TypeId}(d:Nat)(w:World)(y:Addr)(h:P.underlying t=some (.pointer e)):(Op.equalIn (d+1) t (.pointer none) (.pointer (some y))).run P w=.ok false w:=by simp[Op.equalIn,run_underlying h]
theorem qDq{P:Program}{t:TypeId}(w:World)(y:Addr)(h:P.underlying t=some (.pointer e)):(binOp .eql t (.pointer none) (.pointer (some y))).run P w=.ok (.bool false) w:=by
 simp only[binOp];simp[Op.equal,Op.maxDepth,qBp 9999 w y h]
def kg(cs:List (Option Addr)):Bool:=decide (none∈cs)
theorem Yt(w:World)(B n:Nat)(v:Value)(cs:List (Option Addr))(h:w.ownsRow B 111 1 v n (cs.map Value.pointer))(U:cs.length=n)(hl:n<=1099511627776):
 Cl 130 #[v,.pointer none] w λe w'=>(∃k:Int,e=.returned (ai k)/\decide (0<=k)=kg cs)/\w'=w:=by
 have HC:Hh (∀j,j<n->∃b o c,v=.slice (some (az b o)) n c/\w.cell? (az b (o+j))=some (.pointer (cs.getD j none))):=ay λj hj=>by
  rcases h.2 with ⟨rfl,rfl⟩|⟨g,cap,cur,rfl,-⟩;omega;refine⟨g,0,cap,rfl,?_⟩;have:=h.cellAt (j:=j) Oo;rw[Nat.zero_add];rw[gD,gE Oo];refine this.trans ?_;rw[bK,gE Oo];rfl
 obtain⟨a,cap,rfl⟩:=xY h;obtain⟨res,I⟩:=Ex (kg cs);rw[<-I];have V:=ay I;have HN:=ay U;clear h U I;go_enter Tryz.func130,Tryz.ntmps130;go_wp2;go_loop [8] (λt=>∃j:Nat,j<=n/\t=ai j/\Hh (∀i,i<j->cs.getD i none≠none)) (λt=>n-(intOf t).toNat);exact⟨0,nZ _,rfl,ay (λi hi=>Oo)⟩;obtain⟨j,hj,rfl,K⟩:=hrel;by_cases M:j<n
 ·have i1:(j:Int)<(n:Int):=Oo;obtain⟨b,o,c,ea,c1⟩:=HC.o j M;cases ea
  have fin:cs.getD j none=none->Hh (res=true):=λe=>V.o.trans (decide_eq_true (by
   have h1:j<cs.length:=by rw[HN.o];exact M
   have:cs.getD j none∈cs:=by rw[gD,gE h1];exact gM _
   rw[e]at this;exact this))
  have nxt:cs.getD j none≠none->Hh (∀i,i<j+1->cs.getD i none≠none):=λe=>ay λi hi=>by
   by_cases e2:i=j;rw[e2];exact e;exact K.o i Oo
  clear K;generalize cs.getD j none=y at *;cases y with
  |none=>
   have O:=fin rfl;clear fin nxt;go_wp2;go_ret;exact⟨⟨_,rfl,by rw[O.o];simp⟩,rfl⟩
  |some y=>
   have O:=nxt Ss;clear fin nxt;have hq:∀w:World,(binOp .eql 111 (.pointer none) (.pointer (some y))).run Tryz.prog w=.ok (.bool false) w:=λw=>qDq w y Tryz.underlying111;go_wp2;go_round;exact⟨j+1,Oo,Gg,O⟩;exact Im
 obtain rfl:j=n:=Oo;have O:Hh (res=false):=ay (V.o.trans (decide_eq_false (λhm=>by
  obtain⟨i,hi,e⟩:=gO hm;exact K.o i (by rw[<-HN.o];exact hi) (by rw[gD,gE hi];exact e))))
 have i1:¬((j:Int)<(j:Int)):=Oo;clear K;go_wp2;go_ret;exact⟨⟨_,rfl,by rw[O.o];simp⟩,rfl⟩
theorem Zh(w:World)(B n:Nat)(v:Value)(cs:List (Option Addr))(h:w.ownsRow B 111 1 v n (cs.map Value.pointer))(I:cs.length=n)(hl:n<=1099511627776):
 Cl 108 #[v,.pointer none] w λe w'=>e=.returned (.bool (kg cs))/\w'=w:=by
 have K:=ay (Yt w B n v cs h I hl);generalize kg cs=res at *;clear h;go_enter Tryz.func108,Tryz.ntmps108;go_wp2_with (first|(go_at_call 130;refine K.o.mono ?_;rintro e w' ⟨⟨k,rfl,M⟩,rfl⟩));go_ret;exact⟨rfl,rfl⟩
theorem Jc(x:JX)(p:LI)(I:LI)(K:Int)(M:I=plc (λt=>x.H t p.length) x.nT):∀k,k<=x.nh p->(yy (x.bel p) I (λj=>x.f (x.tk p j) (prt (x.H (x.tk p j)) p++[K])) k).length=x.nT/\∀t,t<x.nT->((∃j,j<k/\x.tk p j=t)->(yy (x.bel p) I (λj=>x.f (x.tk p j) (prt (x.H (x.tk p j)) p++[K])) k)[t]?=some (.pointer (some (az (x.f t (prt (x.H t) p++[K])) 0))))/\((¬∃j,j<k/\x.tk p j=t)->(yy (x.bel p) I (λj=>x.f (x.tk p j) (prt (x.H (x.tk p j)) p++[K])) k)[t]?=some (.pointer (some (az (x.f t (prt (x.H t) p)) 0))))
 |0,_=>⟨x.bel_len p,λt O=>⟨λ⟨j,hj,_⟩=>Oo,λ_=>Jb x p O⟩⟩
 |k+1,hk=>by
  obtain⟨h1,h2⟩:=Jc x p I K M k Oo;have U:k<x.nh p:=Oo;have V:(I.getD k 0).toNat=x.tk p k:=by rw[M];rfl
  have a3:=(x.tk_ok p U).1;refine⟨by show(List.set _ _ _).length=_;rw[List.length_set,h1],λt O=>?_⟩;show(_->((yy (x.bel p) I _ k).set (I.getD k 0).toNat _)[t]?=_)/\(_->((yy (x.bel p) I _ k).set (I.getD k 0).toNat _)[t]?=_);rw[V];by_cases e:x.tk p k=t;subst e;rw[List.getElem?_set_self (by rw[h1];exact a3)];exact⟨λ_=>rfl,λhn=>absurd ⟨k,Oo,rfl⟩ hn⟩;rw[List.getElem?_set_ne e];refine⟨λ⟨j,hj,ej⟩=>(h2 t O).1 ⟨j,?_,ej⟩,λhn=>(h2 t O).2 λ⟨j,hj,ej⟩=>hn ⟨j,Oo,ej⟩⟩;have:j≠k:=λe2=>e (by rw[<-e2];exact ej);omega
theorem qDy(x:JX)(p:LI)(M:LI)(I:Int)(O:M=plc (λt=>x.H t p.length) x.nT):yy (x.bel p) M (λj=>x.f (x.tk p j) (prt (x.H (x.tk p j)) p++[I])) (x.nh p)=x.bel (p++[I]):=by
 obtain⟨h1,h2⟩:=Jc x p M I O (x.nh p) (nR _);refine List.ext_getElem? λt=>?_;by_cases K:t<x.nT
 ·rw[Jb x (p++[I]) K,jO];cases hH:x.H t p.length
  rw[(h2 t K).2 λ⟨j,U,V⟩=>by have:=(x.tk_ok p U).2.1;rw[V,hH]at this;cases this];simp;obtain⟨j,U,V⟩:=x.tk_all p K hH;rw[(h2 t K).1 ⟨j,U,V⟩];simp
 rw[gN (by rw[h1];omega),gN (by rw[x.bel_len];omega)]
theorem qFI(x:JX)(p:LI):∀u∈x.bel p,u.oneCell'=true:=λu I=>by
 unfold JX.bel at I;obtain⟨t,-,rfl⟩:=List.mem_map.1 I;rfl
theorem UI(x:JX)(hx:x.Ok)(nxt:LI->LI)(no:Nat)(hm:JMx x nxt no)(l0:Nat)(w:World)(bB bH:Nat)(vp vb:Value)(p:LI)(hp:p.length<no)(hd:x.Hd p)(g5:Dat x w)(g6:Brn x x.n0 w vp vb p)(i6:BrX w bB vp vb)(l3:x.n0<=bB)
 (i7:w.1[bH]?=some (.cells #[x.uh.getD p.length undef] 24 (0,0))) (l4:x.n0<=bH) (l5:¬RBk x w bH):
 Gives Tryz.prog 157 #[.pointer (some (az bB 0)),.pointer (some (az bH 0))] qBs (KpB x l0) (λ_ _ _=>True) (qGV x nxt p) (nxt p) w:=by
 intro l J Jx W a7 q4 q5 hJ l6 hY h0;show Calls _ _ #[.func (.yield l) #[] #[],.pointer (some (az bB 0)),.pointer (some (az bH 0))] W _;obtain⟨tS,l7,l8⟩:=hm.some p.length hp;have e8:0<x.nT:=Oo;have l9:x.n0<=w.1.size:=by have:=i6.lt;omega
 have m0:KT x.n0 w W:=KT.of_below a7 l9;have i8:=g5.kt m0 hx;have a8:=g6.below a7;have b9:=i6.below a7;have a9:=(a7.block _ (qW i7)).trans i7;have g7:¬RBk x W bH:=λM=>l5 ((RBk.eq (a7.block _ (by have:=hx.r;omega)) _).1 M);have I:(x.hav.getD p.length []).length=x.nh p:=by rw[hm.hav _ hp];rfl
 have d0:IS W (x.uh.getD p.length undef) (x.hav.getD p.length []):=qS (i8.hq.each p.length (by rw[hm.hl];exact hp));have e9:x.nh p<=1000:=bM (xp _ _) hm.lT;have d3:0<x.nh p:=by obtain⟨j,K,-⟩:=x.tk_all p l7 l8;omega
 obtain⟨bb,cb,f7,-⟩:=xN a8.bel (show 0<x.nT from e8);obtain⟨ap,cp,m1⟩:=xY a8.pre;obtain⟨vt,i9⟩:=Ex (x.uh.getD p.length undef);rw[<-i9]at a9 d0;have m2:∀t,t<x.nT->W.cell? (az bb t)=some (.pointer (some (az (x.f t (prt (x.H t) p)) 0))):=λt ht=>by
  have:=a8.bel;rw[f7]at this;rw[this.cellAt t Oo];exact Jb x p ht
 have KC:=ay (UG W vp vt bb x.nT cb (x.hav.getD p.length []) (x.nd p) ⟨_,_,_,m1⟩ d0 (by rw[I];exact e9)
  (λj K=>by rw[hm.hav _ hp,(x.tk_ok p (by rw[<-I];exact K)).2.2];have:=(x.tk_ok p (j:=j) (by rw[<-I];exact K)).1;omega)
  (λj K=>by rw[hm.hav _ hp,(x.tk_ok p (by rw[<-I];exact K)).2.2];have:=(x.tk_ok p (j:=j) (by rw[<-I];exact K)).1;rw[show((x.tk p j:Int)).toNat=x.tk p j by omega];exact m2 _ this))
 rw[I]at KC;have c7:Hh (∀w1 v1,w1.ownsRow W.1.size 176 2 v1 (x.nh p) (vL (x.nd p) (λ_=>0) (x.nh p))->Bl W w1->∃cu cc,v1=.slice (some (az cu 0)) (x.nh p) cc/\LG x W.1.size w1 bB bH cu cc vp vb vt p (λ_=>0)):=ay λw1 v1 ho hb=>by
  have m3:KT x.n0 W w1:=KT.of_below hb (by have:=a7.size;omega);rcases ho.2 with ⟨-,h2⟩|⟨g,cap,cur,rfl,h3,h4,h5,h6,h7,h8⟩;omega;exact⟨g,cap,rfl,i8.kt m3 hx,a8.below hb,b9.below hb,l3,(hb.block _ (qW a9)).trans a9,l4,λM=>g7 ((RBk.eq (m3.bel.block _ hx.r) _).1 M),by have:=a7.size;omega,ho⟩
 have c0:=b9.c0;have c1:=b9.c1;have c2:W.cell? (az bH 0)=some vt:=by rw[cell_of_row _ _ _ _ _ _ a9];rfl
 subst m1;rw[f7]at c1;have m4:∃a n c,vt=.slice a n c:=by obtain⟨a,c,e,-⟩:=d0;exact⟨a,_,c,e⟩
 obtain⟨av,nv,cv,rfl⟩:=m4;have KF:Hh (∀cu cc w1,LG x W.1.size w1 bB bH cu cc (.slice ap p.length cp) vb (.slice av nv cv) p (λ_=>0)->Cl 159 #[.slice (some (az cu 0)) (x.nh p) cc] w1 λe w'=>∃i ga ca,i<x.nh p/\e=.returned (.slice (some (az ga 0)) (x.vl p i).length ca)/\x.g0 (x.tk p i) (prt (x.H (x.tk p i)) p)=.slice (some (az ga 0)) (x.vl p i).length ca/\Bl w1 w'):=ay λcu cc w1 hL=>by
  have hg:∀j,j<x.nh p->∃ga ca,x.g0 (x.tk p j) (prt (x.H (x.tk p j)) p)=.slice (some (az ga 0)) (x.vl p j).length ca:=λj K=>by
   obtain⟨M,h2,-⟩:=x.tk_ok p K;obtain⟨ga,ca,ea,-⟩:=xN ((hL.dat.tr _ M).o0 _ (hd _ M)) (hm.more p hp hd _ M h2);exact⟨ga,ca,ea⟩
  refine(Ja w1 cu cc (x.nh p) (x.nd p) (λ_=>0) (λj=>slA (x.g0 (x.tk p j) (prt (x.H (x.tk p j)) p))) (λj=>slN (x.g0 (x.tk p j) (prt (x.H (x.tk p j)) p))) (λj=>slC (x.g0 (x.tk p j) (prt (x.H (x.tk p j)) p))) d3 e9 (λj K=>?_) (λj K=>?_)).mono ?_;obtain⟨g1,g2⟩:=JV (x.nd p) (λ_=>0) (x.nh p) j K;rw[hL.cur.cellAt (j*2) Oo,hL.cur.cellAt (j*2+1) Oo];exact⟨g1,g2⟩;obtain⟨M,h2,-⟩:=x.tk_ok p K;obtain⟨ga,ca,ea⟩:=hg j K;rw[ea];have:=(hL.dat.tr _ M).c0 (hd _ M);rw[ea]at this;exact this;rintro e w' ⟨i,hi,rfl,hb⟩;obtain⟨ga,ca,ea⟩:=hg i hi;exact⟨i,ga,ca,hi,by rw[ea];rfl,ea,hb⟩
 have HJ:=ay hJ;have s8:=ay l6;have q6:=ay hY;have H0:=ay h0;have HM:=ay hm;have HD:=ay hd;have HX:=ay hx;have m5:x.n0<=W.1.size:=by have:=a7.size;omega
 have q7:=ay m5;have m6:=ay f7;have q8:=ay i9;clear i9 I d0 a8 b9 a9 g7 i8 m0 l9 i6 i7 g6 g5 l5 l3 l4 m2 a7 q4 q5 hJ l6 hY h0 tS l7 l8 e8 f7;clear hm hd hx m5;obtain⟨nh,d4⟩:=Ex (x.nh p);have O:=ay d4;rw[<-d4]at KC c7 KF e9 d3;clear d4;obtain⟨nT,d5⟩:=Ex x.nT;have b7:=ay d5;rw[<-d5]at KC c1;clear d5;obtain⟨np,d8⟩:=Ex p.length;have a5:=ay d8;rw[<-d8]at KC c0 c7 KF hp;clear d8;go_enter Tryz.func157,Tryz.ntmps157;go_upto_region 1 with (first|(go_at_call 158;refine KC.o.mono ?_;rintro e w1 ⟨v1,rfl,d9,j0⟩)|fail);obtain⟨cu,cc,e1,j1⟩:=c7.o w1 v1 d9 j0;subst e1;have m7:=ay j0;have m8:=ay j1;have m9:=ay (KF.o cu cc w1 j1);clear d9 j0 j1 KC c7 KF c0 c1 c2;go_upto_block 0 with (first|(go_at_call 159;refine m9.o.mono ?_;rintro e w2 ⟨gi,ga,ca,e0,rfl,n1,j2⟩)|fail);have j3:=ay (bt m7.o j2);have n2:=ay (m8.o.below HX.o j2);have q9:=ay n1;obtain⟨L,hL⟩:=Ex (x.vl p gi);have s9:=ay (And.intro e0 hL);have j4:Hh (nxt p=L.filter λy=>x.all p y):=ay (by
  obtain⟨M,h2,-⟩:=x.tk_ok p (j:=gi) (by rw[<-O.o];exact e0);rw[HM.o.nx p (by rw[<-a5.o];exact hp) HD.o _ M h2,hL];refine List.filter_congr λy _=>?_;exact x.all_eq p y)
 have n3:Hh (L.Pairwise (·< ·)):=ay (by
  obtain⟨M,h2,-⟩:=x.tk_ok p (j:=gi) (by rw[<-O.o];exact e0);rw[hL];exact HM.o.asc _ M _ (HD.o _ M))
 have r3:L.length<=1000000:=by
  obtain⟨M,h2,-⟩:=x.tk_ok p (j:=gi) (by rw[<-O.o];exact e0);rw[hL];exact HM.o.len _ M _ (HD.o _ M)
 have n4:Hh (∀w3 q,LG x W.1.size w3 bB bH cu cc (.slice ap np cp) vb (.slice av nv cv) p q->∀k,k<L.length->w3.cell? (az ga k)=some (ai (L.getD k 0))):=ay λw3 q h3 k hk=>by
  obtain⟨M,h2,-⟩:=x.tk_ok p (j:=gi) (by rw[<-O.o];exact e0);have ho:=(h3.dat.tr _ M).o0 _ (HD.o _ M);rw[q9.o]at ho;have t0:k<(x.vl p gi).length:=by rw[<-hL];exact hk
  rw[ho.cellAt k (by show k<(x.vl p gi).length*1;omega)];show((x.vl p gi).map ai)[k]?=_;rw[<-hL,bK,gE hk,gD,gE hk];rfl
 rw[<-hL];clear j2 n1 hL m9 m7 m8;obtain⟨nL,j5⟩:=Ex L.length;have d1:=ay j5;rw[<-j5]at n4 r3 ⊢;clear j5;have r4:Hh (W.1.size<=w2.1.size):=ay j3.o.size;go_wp2_with fail;go_loopw [16] (λt wr=>∃(k:Nat),k<=nL/\t=ai k/\Hh (∃q X,J ((L.take k).filter λy=>x.all p y) X/\KT W.1.size X wr/\LG x W.1.size wr bB bH cu cc (.slice ap np cp) vb (.slice av nv cv) p q/\∀j,j<nh->q j<(x.vl p j).length/\(k<nL->∀m,m<q j->(x.vl p j).getD m 0<L.getD k 0))) (λt _=>nL-(intOf t).toNat)
 case atStart=>exact⟨0,nZ _,rfl,ay ⟨_,W,H0.o,KT.of_below j3.o (nR _),n2.o,λj K=>⟨by
  obtain⟨M,h2,-⟩:=x.tk_ok p (j:=j) (by rw[<-O.o];exact K);exact HM.o.more p (by rw[<-a5.o];exact hp) HD.o _ M h2,λ_ m hm=>Oo⟩⟩⟩
 case round=>
  clear n2 j3 H0 r4;obtain⟨k,hk,rfl,HT⟩:=hrel;by_cases e2:k<nL
  ·have i1:(k:Int)<(nL:Int):=Oo;obtain⟨q0,X0,n5,g9,e3,j6⟩:=HT.o;have n6:=n4.o wr q0 e3 k e2;have k0:Hh (∃q X,J ((L.take k).filter λy=>x.all p y) X/\KT W.1.size X wr/\LG x W.1.size wr bB bH cu cc (.slice ap np cp) vb (.slice av nv cv) p q/\(∀j,j<nh->q j<(x.vl p j).length/\∀m,m<q j->(x.vl p j).getD m 0<L.getD k 0)/\∀j,j<0->(x.vl p j).getD (q j) 0=L.getD k 0):=ay ⟨q0,X0,n5,g9,e3,λj K=>⟨(j6 j K).1,(j6 j K).2 e2⟩,λj K=>Oo⟩;have r5:Hh (L.getD k 0∈L):=ay (xz (by rw[<-d1.o];exact e2));have c9:Hh (∀k',k<k'->k'<nL->L.getD k 0<L.getD k' 0):=ay λk' M h2=>uZ n3.o k k' M (by rw[<-d1.o];exact h2);have k1:Hh (L.take (k+1)=L.take k++[L.getD k 0]):=ay (qy (by rw[<-d1.o];exact e2));clear n5 g9 e3 j6 HT;obtain⟨U,k2⟩:=Ex (L.getD k 0);have r6:=ay k2;rw[<-k2]at n6 k0 r5 c9 k1;clear k2;generalize wr=wo at *;go_upto_region 5 with (first|go_step3|fail);clear n6;go_wp2_with fail;go_loopw [7,22] (λv7 t wr=>∃(i:Nat),i<=nh/\v7=ai i/\t=ai i/\Hh (∃q X,J ((L.take k).filter λy=>x.all p y) X/\KT W.1.size X wr/\LG x W.1.size wr bB bH cu cc (.slice ap np cp) vb (.slice av nv cv) p q/\(∀j,j<nh->q j<(x.vl p j).length/\∀m,m<q j->(x.vl p j).getD m 0<U)/\∀j,j<i->(x.vl p j).getD (q j) 0=U)) (λ_ t _=>nh-(intOf t).toNat);exact⟨0,nZ _,rfl,rfl,k0⟩;clear k0;obtain⟨i,t1,rfl,rfl,HT⟩:=hrel;obtain⟨q,X,n7,n8,i0,n9,o3⟩:=HT.o;have f8:=ay n7;have k3:=ay n8;have V:=ay i0;have b8:=ay n9;have k4:=ay o3;clear HT n7 n8 i0 n9 o3;by_cases e4:i<nh
   ·have i2:(i:Int)<(nh:Int):=Oo;have a6:i<x.nh p:=by rw[<-O.o];exact e4
    have o4:=ay (V.o.seek_calls HX.o HM.o (by rw[<-a5.o];exact hp) HD.o a6 U (b8.o i e4).1 (b8.o i e4).2);go_upto_region 10 with (first|(go_at_call 137;refine o4.o.mono ?_;rintro e w5 ⟨⟨v5,rfl⟩,vq,o5⟩)|fail);have a3:=ay o5;clear o5 o4;have e5:=ay (k3.o.trans a3.o.kt);have KE:=ay (a3.o.lg.ended_calls HM.o (by rw[<-a5.o];exact hp) HD.o a6);have r7:(if i=i then vq else q i)=vq:=if_pos rfl;rw[r7]at KE;by_cases i3:vq=(x.vl p i).length
    ·rw[decide_eq_true i3]at KE;have HF:Hh (∀d,J (nxt p) (w5.drewN d)):=ay λd=>by
      have k5:nxt p=(L.take k).filter λy=>x.all p y:=by
       rw[j4.o];conv=>lhs;rw[<-tD k L]
       rw[List.filter_append];have:(L.drop k).filter (λy=>x.all p y)=[]:=List.filter_eq_nil_iff.2 λz hz a4=>by
        obtain⟨m,r8,k6⟩:=gO hz;rw[List.length_drop]at r8;rw[List.getElem_drop]at k6;have t2:U<=z:=by
         by_cases e:m=0;subst e;rw[r6.o,gD,gE (by rw[<-d1.o];exact e2),<-k6];exact Int.le_refl _;have:=c9.o (k+m) Oo (by rw[d1.o];omega);rw[gD,gE Oo]at this;have h9:(some L[k+m]).getD 0=z:=k6;rw[h9]at this;omega
        unfold JX.all at a4;rw[aT]at a4;have k7:=of_decide_eq_true (a4 i (List.mem_range.2 a6));obtain⟨m',o6,e'⟩:=yV k7;have:=a3.o.lo m' Oo;omega
       rw[this,List.append_nil]
      rw[k5];exact HJ.o _ _ _ f8.o (e5.o.trans (KT.of_below (below_drewN (bJ _ _) d) (by have:=e5.o.bel.size;have:=q7.o;have h8:=a3.o.lg.cur.lt cu rfl;omega)))
     go_wp2_with (first|(go_at_call 138;refine KE.o.mono ?_;rintro e w6 ⟨rfl,d6,rfl⟩)|fail);simp only[Exit.noGoto,Exit.inBlock,Exit.then];refine bodyPost_ret (P:=Tryz.prog) (fn:=Tryz.f157) (R:=λe W'=>(∃v,e=.returned v)/\(J (nxt p) W'∨Jx W')) (results_none rfl _ _ _) rfl ?_;exact⟨⟨_,rfl⟩,Or.inl (HF.o d6)⟩
    rw[decide_eq_false i3]at KE;have k8:vq<(x.vl p i).length:=by have:=a3.o.le;omega
    have KV:Hh (∀d,Cl 139 #[.pointer (some (az cu (i*2)))] (w5.drewN d) λe w'=>e=.returned (ai ((x.vl p i).getD vq 0))/\∃d',w'=(w5.drewN d).drewN d'):=ay λd=>by
     have:=(a3.o.lg.below HX.o (below_drewN (bJ _ _) d)).value_calls HM.o (by rw[<-a5.o];exact hp) HD.o a6 (by rw[if_pos rfl];exact k8);rw[if_pos rfl]at this;exact this
    have f9:Hh (∀d,KT W.1.size X (w5.drewN d)/\LG x W.1.size (w5.drewN d) bB bH cu cc (.slice ap np cp) vb (.slice av nv cv) p (λj=>if j=i then vq else q j)):=ay λd=>⟨e5.o.trans (KT.of_below (below_drewN (bJ _ _) d) (by have h8:=a3.o.lg.cur.lt cu rfl;omega)),a3.o.lg.below HX.o (below_drewN (bJ _ _) d)⟩;have k9:Hh (∀j,j<nh->(if j=i then vq else q j)<(x.vl p j).length/\∀m,m<(if j=i then vq else q j)->(x.vl p j).getD m 0<U):=ay λj K=>by
     by_cases e:j=i;subst e;rw[if_pos rfl];exact⟨k8,a3.o.lo⟩;rw[if_neg e];exact b8.o j K
    obtain⟨z,hz⟩:=Ex ((x.vl p i).getD vq 0);rw[<-hz]at KV;by_cases d2:z=U
    ·have r9:Hh (∀j,j<i+1->(x.vl p j).getD (if j=i then vq else q j) 0=U):=ay λj K=>by
      by_cases e:j=i;subst e;rw[if_pos rfl,<-hz];exact d2;rw[if_neg e];exact k4.o j Oo
     have q1:(z != U)=false:=by simp[d2]
     clear hz d2;go_wp2_with (first|(go_at_call 138;refine KE.o.mono ?_;rintro e w6 ⟨rfl,d6,rfl⟩)|(go_at_call 139;refine(KV.o d6).mono ?_;rintro e w7 ⟨rfl,d7,rfl⟩)|fail);have HN:Hh (∃q X,J ((L.take k).filter λy=>x.all p y) X/\KT W.1.size X (w5.drewN (d6+d7))/\LG x W.1.size (w5.drewN (d6+d7)) bB bH cu cc (.slice ap np cp) vb (.slice av nv cv) p q/\(∀j,j<nh->q j<(x.vl p j).length/\∀m,m<q j->(x.vl p j).getD m 0<U)/\∀j,j<i+1->(x.vl p j).getD (q j) 0=U):=ay ⟨_,X,f8.o,(f9.o (d6+d7)).1,(f9.o (d6+d7)).2,k9.o,r9.o⟩;go_roundw;exact⟨i+1,Oo,Gg,Gg,HN⟩;exact Im
    have q1:(z != U)=true:=by simp[d2]
    have g4:Hh ((L.take (k+1)).filter (λy=>x.all p y)=(L.take k).filter λy=>x.all p y):=ay (by
     rw[k1.o,List.filter_append];have:[U].filter (λy=>x.all p y)=[]:=List.filter_eq_nil_iff.2 λy hy a4=>by
      rw[List.mem_singleton]at hy;subst hy;unfold JX.all at a4;rw[aT]at a4;have k7:=of_decide_eq_true (a4 i (List.mem_range.2 a6));obtain⟨m',o6,e'⟩:=yV k7;obtain⟨M,h2,-⟩:=x.tk_ok p (j:=i) a6;have o7:=uZ (HM.o.asc _ M _ (HD.o _ M));rcases Nat.lt_trichotomy m' vq with h|h|h;have:=a3.o.lo m' h;omega;rw[h]at e';exact d2 (hz.trans e');have h3:=a3.o.hi vq (nR _) k8;have h4:=o7 vq m' h o6;have h5:(x.N (x.tk p i) (prt (x.H (x.tk p i)) p)).getD m' 0=y:=e';have h6:y<=(x.N (x.tk p i) (prt (x.H (x.tk p i)) p)).getD vq 0:=h3;omega
     rw[this,List.append_nil])
    have qs:((i:Int) == (nh:Int))=false:=Sy;clear hz d2;go_upto_region 14 with (first|(go_at_call 138;refine KE.o.mono ?_;rintro e w6 ⟨rfl,d6,rfl⟩)|(go_at_call 139;refine(KV.o d6).mono ?_;rintro e w7 ⟨rfl,d7,rfl⟩)|fail);have HN:Hh (∃q X,J ((L.take (k+1)).filter λy=>x.all p y) X/\KT W.1.size X (w5.drewN (d6+d7))/\LG x W.1.size (w5.drewN (d6+d7)) bB bH cu cc (.slice ap np cp) vb (.slice av nv cv) p q/\∀j,j<nh->q j<(x.vl p j).length/\(k+1<nL->∀m,m<q j->(x.vl p j).getD m 0<L.getD (k+1) 0)):=ay ⟨_,X,by rw[g4.o];exact f8.o,(f9.o (d6+d7)).1,(f9.o (d6+d7)).2,λj K=>⟨(k9.o j K).1,λl1 m hm=>by
     have M:=(k9.o j K).2 m hm;have h2:=c9.o (k+1) Oo l1;omega⟩⟩
    go_wp2_with fail;simp only[Exit.noGoto,Exit.inBlock,Exit.then];go_wp2_with fail;go_roundw;exact⟨k+1,Oo,Gg,HN⟩;exact Im
   obtain rfl:i=nh:=Oo;have i2:¬((i:Int)<(i:Int)):=Oo;have qs:((i:Int) == (i:Int))=true:=Ss;have g4:Hh ((L.take (k+1)).filter (λy=>x.all p y)=((L.take k).filter λy=>x.all p y)++[U]):=ay (by
    rw[k1.o,List.filter_append];have:x.all p U=true:=by
     unfold JX.all;rw[aT];intro j K;have o8:j<i:=by rw[O.o];exact List.mem_range.1 K
     refine decide_eq_true ?_;rw[<-k4.o j o8];exact xz (b8.o j o8).1
    rw[List.filter_cons,if_pos this];rfl)
   have s1:Hh (((L.take k).filter λy=>x.all p y)++[U] <+:nxt p):=ay (by rw[j4.o,<-g4.o];exact(List.take_prefix _ _).filter _);go_upto_region 14 with fail;refine(wpIn_wide (n:=0)).1 ?_;have b0:=V.o.bx.c0;have b1:=V.o.bx.c1;have b2:wr.cell? (az bH 0)=some (.slice av nv cv):=by rw[cell_of_row _ _ _ _ _ _ V.o.bh];rfl
   have s2:Hh (Cl 160 #[.agg #[.slice ap np cp,vb],ai U,.slice av nv cv,.slice (some (az cu 0)) i cc] wr λe w'=>∃g c g' c',e=.returned (.agg #[.slice (some (az g 0)) (np+1) c,.slice (some (az g' 0)) nT c'])/\Bl wr w'/\Brn x X.1.size w' (.slice (some (az g 0)) (np+1) c) (.slice (some (az g' 0)) nT c') (p++[U])):=ay (by
    have hL:=V.o;have e6:p.length<no:=by rw[<-a5.o];exact hp
    have s3:=HM.o.hl;have l2:=HM.o.hav p.length e6;have I:(x.hav.getD p.length []).length=i:=by rw[l2,O.o];rfl
    have eb:vb=.slice (some (az bb 0)) nT cb:=by rw[b7.o];exact m6.o
    have hb:=hL.brn.bel;rw[eb,<-b7.o]at hb;have d0:IS wr (.slice av nv cv) (x.hav.getD p.length []):=by rw[q8.o];exact qS (hL.dat.hq.each p.length (by rw[s3];exact e6))
    have o9:X.1.size<=wr.1.size:=k3.o.bel.size;have p1:wr.ownsRow x.n0 3 1 (.slice ap np cp) p.length (p.map ai):=hL.brn.pre;have s4:0<i:=d3;have e8:0<nT:=by rw[b7.o];have:=(x.tk_ok p (j:=0) (by rw[<-O.o];exact s4)).1;omega
    have:=qBr wr x.n0 x.n0 bb nT cb cu cc (.slice ap np cp) (.slice av nv cv) p (x.hav.getD p.length []) (x.bel p) U (λj=>x.f (x.tk p j) (prt (x.H (x.tk p j)) p++[U])) p1 (by have:=HM.o.lo;omega) hb (qFI x p) e8 (by rw[b7.o];exact HM.o.lT) d0 (by rw[I];exact e9)
     (λj K=>by
      rw[I,O.o]at K;obtain⟨M,-,h3⟩:=x.tk_ok p K;rw[l2,h3,b7.o];omega)
     (λW' s5 j K=>by
      rw[I]at K;exact(hL.below HX.o s5).below_calls HM.o e6 HD.o (by rw[<-O.o];exact K) (b8.o j K).1 (k4.o j K))
    rw[I,<-eb]at this;refine this.mono ?_;rintro e w' ⟨g,c,g',c',rfl,d9,p2,s6⟩;rw[O.o,qDy x p _ U l2,b7.o]at p2;rw[<-a5.o]at d9;refine⟨g,c,g',c',by rw[<-a5.o],s6,⟨?_,?_⟩⟩;rw[lA,lS,<-a5.o];exact qF d9 o9;rw[b7.o];exact qF p2 o9)
   have p3:Hh (∀w8,Bl wr w8->KT W.1.size X w8/\LG x W.1.size w8 bB bH cu cc (.slice ap np cp) vb (.slice av nv cv) p q):=ay λw8 e7=>⟨k3.o.trans (KT.of_below e7 (by have h8:=V.o.cur.lt cu rfl;omega)),V.o.below HX.o e7⟩;have i4:Hh (np=p.length/\nT=x.nT):=ay ⟨a5.o,b7.o⟩;gi_wp2_with (first|(refine⟨trivial,rfl,?_⟩;gi_at_call 160;refine(callsIn_wide.2 s2.o).mono ?_;rintro e w8 ⟨g8,c8,p4,p5,rfl,e7,p6⟩;obtain⟨fn,tmps,assign,body,hy,hR⟩:=q6.o _ U (.slice (some (az g8 0)) (np+1) c8,.slice (some (az p4 0)) nT p5) X w8 f8.o (p3.o w8 e7).1 ⟨p6,s1.o,⟨g8,c8,by rw[<-i4.o.1]⟩,⟨p4,p5,by rw[<-i4.o.2]⟩⟩;dsimp only[qBs]at hy)|fail)
   have s7:=ay (p3.o w8 e7).2;refine⟨rfl,?_⟩;refine hR.mono ?_;rintro e w9 (⟨rfl,p7,p8⟩|⟨rfl,p9,-⟩)
   ·have HN:Hh (∃q X,J ((L.take (k+1)).filter λy=>x.all p y) X/\KT W.1.size X w9/\LG x W.1.size w9 bB bH cu cc (.slice ap np cp) vb (.slice av nv cv) p q/\∀j,j<i->q j<(x.vl p j).length/\(k+1<nL->∀m,m<q j->(x.vl p j).getD m 0<L.getD (k+1) 0)):=ay ⟨q,w9,by rw[g4.o];exact p7,KT.refl _ _,s7.o.kp HX.o p8,λj K=>⟨(b8.o j K).1,λl1 m hm=>by
     have M:=(b8.o j K).2 m hm;have h2:=c9.o (k+1) Oo l1;omega⟩⟩
    clear p7 p8 hR hy;gi_wp2
    go_wp2_with fail;simp only[Exit.noGoto,Exit.inBlock,Exit.then];go_wp2_with fail;go_roundw;exact⟨k+1,Oo,Gg,HN⟩;exact Im
   clear hR hy;gi_wp2
   go_wp2_with fail;simp only[Exit.noGoto,Exit.inBlock,Exit.then];refine bodyPost_ret (P:=Tryz.prog) (fn:=Tryz.f157) (R:=λe W'=>(∃v,e=.returned v)/\(J (nxt p) W'∨Jx W')) (results_none rfl _ _ _) rfl ?_;exact⟨⟨_,rfl⟩,Or.inr p9⟩
  obtain rfl:k=nL:=Oo;have i1:¬((k:Int)<(k:Int)):=Oo;obtain⟨q,X,q2,i5,q3,-⟩:=HT.o;have HF:Hh (J (nxt p) wr):=ay (by
   have:=HJ.o _ _ _ q2 i5;rw[d1.o,tL,<-j4.o]at this;exact this)
  clear q2 i5 q3 HT;go_wp2_with fail;go_end0
  exact⟨⟨_,rfl⟩,Or.inl HF.o⟩
end Go.Proofs.YtcnfapnfmnolbaaGreat
