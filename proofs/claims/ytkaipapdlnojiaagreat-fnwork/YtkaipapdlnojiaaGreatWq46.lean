import Derived.Test.YtkaipapdlnojiaaGreatWq43
import Derived.Test.YtkaipapdlnojiaaGreatWq45
set_option maxHeartbeats 40000000
set_option maxRecDepth 1000000
namespace Go.Proofs.YtkaipapdlnojiaaGreat
open Go.RowKit
variable {o:List Int}{tl:List TbV}{B t:Nat}{e:TypeId}{W:World}
def mkX(h r v n0:Nat)(tl:List TbV)(o:List Int)(f:Nat->List Int->Nat)(g0 g1:Nat->List Int->Value)(hv:Value)(uh:List Value):JX where
 h:=h
 r:=r
 v:=v
 n0:=n0
 nT:=tl.length
 H:=λt=>qN o (sdT o (tl.getD t qC)).vars
 D:=λt p=>p=[]∨∃r∈(sdT o (tl.getD t qC)).rows,p <+:r
 N:=λt=>nN (sdT o (tl.getD t qC)).vars.length (sdT o (tl.getD t qC)).rows
 f:=f
 g0:=g0
 g1:=g1
 hv:=hv
 uh:=uh
 hav:=z7 tl o
theorem Qg(h:t < tl.length):tl.getD t qC∈tl:=by rw[gD,bC h];exact gM _
theorem Uc(h:t < tl.length):sdO o (sdT o (tl.getD t qC))∈yF tl o:=List.mem_map.2 ⟨_,List.mem_map.2 ⟨_,Qg h,rfl⟩,rfl⟩
theorem qB0{s:Sd}(h:s∈yF tl o):∃t,t < tl.length/\s=sdO o (sdT o (tl.getD t qC)):=by
 obtain⟨m,I,rfl⟩:=List.mem_map.1 h;obtain⟨t,K,rfl⟩:=List.mem_map.1 I;obtain⟨i,hi,rfl⟩:=gO K;exact⟨i,hi,by rw[gD,bC hi];rfl⟩
section
variable {h r v n0:Nat} {tl:List TbV} {o:List Int} {f:Nat->List Int->Nat} {g0 g1:Nat->List Int->Value} {hv:Value} {uh:List Value}
theorem Z7(p:List Int):(mkX h r v n0 tl o f g0 g1 hv uh).Hd p↔Hld (yF tl o) p:=by
 constructor
 ·intro I s hs;obtain⟨t,K,rfl⟩:=qB0 hs;exact I t K
 ·intro I t K;exact I _ (Uc K)
theorem qC4(p:List Int)(I:(mkX h r v n0 tl o f g0 g1 hv uh).Hd p)(y:Int)(K:y∈nxJ tl o p):(mkX h r v n0 tl o f g0 g1 hv uh).Hd (p++[y]):=(Z7 _).2 (((Z7 _).1 I).snoc (uK tl o) K)
theorem Ud(o:List Int)(t:TbV):(sdT o t).vars=shr o t.vs:=rfl
theorem plc_congr{p q:Nat->Bool}{k:Nat}(h:∀i,i < k->p i=q i):plc p k=plc q k:=by
 unfold plc;congr 1;exact List.filter_congr λi hi=>h i (List.mem_range.1 hi)
theorem qB1{l:List (List Int)}(h:l≠[]):srt l≠[]:=λe=>h (by
 cases l with
 |nil=>rfl
 |cons a l=>
  have:a∈srt (a::l):=((yp _ (a::l) (bK _)).2 a).2 List.mem_cons_self;rw[e]at this;cases this)
theorem qC5(ht:∀t∈tl,TvJ t)(U:∀t∈tl,t.rows≠[])(hc:QL tl o)(hl:tl.length<=1000)(V:o.length<=1000):JMx (mkX h r v n0 tl o f g0 g1 hv uh) (nxJ tl o) o.length:=by
 have hT:∀t,t < tl.length->TM (sdT o (tl.getD t qC)).rows (λp=>p=[]∨∃r∈(sdT o (tl.getD t qC)).rows,p <+:r) (nN (sdT o (tl.getD t qC)).vars.length (sdT o (tl.getD t qC)).rows):=λt _=>qAt (yh o _).sl (yh o _).len;refine⟨λt I q hq y=>(hT t I).mem q hq y,λt I q hq=>(hT t I).asc q hq,λt I q _=>?_,hl,V,by show(z7 tl o).length=_;unfold z7;rw[lM],λk M=>?_,λk M=>?_,λp hp hd t I hH=>?_,λp hp hd g hg hH=>?_⟩
 ·have K:=qCB (sdT o (tl.getD t qC)).vars.length (sdT o (tl.getD t qC)).rows q;have O:=ud o (tl.getD t qC);have h4:=(ht _ (Qg I)).n;show(nN _ _ q).length<=1000000;omega
 ·show(z7 tl o).getD k []=plc (λt=>qN o (sdT o (tl.getD t qC)).vars k) tl.length;unfold z7;rw[gD,bN,bC M];show plc _ (tl.map TbV.vs).length=_;rw[lM];refine plc_congr λi hi=>?_;rw[Ud,vA M]
  have e1:(tl.map TbV.vs).getD i []=(tl.getD i qC).vs:=by
   rw[gD,bN,bC hi,gD,bC hi];rfl
  have e2:o.getD k 0=o[k]:=by rw[gD,bC M];rfl
  rw[e1,e2]
 ·obtain⟨t,I,K⟩:=hc k M;obtain⟨i,hi,rfl⟩:=gO I;refine⟨i,hi,?_⟩;show qN o (sdT o (tl.getD i qC)).vars k=true;rw[Ud,vA M,gD,bC hi];exact decide_eq_true K
 ·have a2:(prt (qN o (sdT o (tl.getD t qC)).vars) p).length < (sdT o (tl.getD t qC)).vars.length:=(qFl hp).2 hH;have hD:prt (qN o (sdT o (tl.getD t qC)).vars) p=[]∨∃r∈(sdT o (tl.getD t qC)).rows,prt (qN o (sdT o (tl.getD t qC)).vars) p <+:r:=hd t I
  have hR:∃r∈(sdT o (tl.getD t qC)).rows,prt (qN o (sdT o (tl.getD t qC)).vars) p <+:r:=by
   rcases hD with K|K
   ·have:(sdT o (tl.getD t qC)).rows≠[]:=qB1 (by simpa using U _ (Qg I));obtain⟨r,hr⟩:=List.exists_mem_of_ne_nil _ this;exact⟨r,hr,by rw[K];exact List.nil_prefix⟩
   ·exact K
  obtain⟨r,hr,tail,e⟩:=hR;have a3:=(yh o (tl.getD t qC)).len r hr;cases tail with
  |nil=>rw[List.append_nil]at e;rw[e]at a2;omega
  |cons y tail=>
   have:y∈nN (sdT o (tl.getD t qC)).vars.length (sdT o (tl.getD t qC)).rows (prt (qN o (sdT o (tl.getD t qC)).vars) p):=((hT t I).mem _ hD y).2 (Or.inr ⟨r,hr,tail,by rw[<-e];simp⟩);exact List.length_pos_of_mem this
 ·have hh:Hld (yF tl o) p:=(Z7 (h:=h) (r:=r) (v:=v) (n0:=n0) (f:=f) (g0:=g0) (g1:=g1) (hv:=hv) (uh:=uh) p).1 hd;have:=Xn (uK tl o) (Uc hg) hh (by exact hH);show xA (yF tl o) p=_;rw[this];unfold vO;refine List.filter_congr λy _=>?_;rw[Bool.eq_iff_iff,kL,bY];constructor
  ·intro I t K;obtain⟨i,hi,O,rfl⟩:=jl.1 K;exact decide_eq_true (I _ (Uc hi) O)
  ·intro I s hs K;obtain⟨t,O,rfl⟩:=qB0 hs;exact of_decide_eq_true (I (t:Int) (jl.2 ⟨t,O,K,rfl⟩))
end
theorem TR.iff{D I:List Int->Prop}{N K:List Int->List Int}{f:List Int->Nat}{g0 g1:List Int->Value}(h:TR W B D N N f g0 g1)(O:∀p,D p↔I p)(M:∀p,D p->K p=N p):TR W B I K K f g0 g1:=by
 have e:D=I:=funext λp=>propext (O p);subst e;exact h.same M M
theorem TrO.tr{t:TbV}{c:Option Addr}(h:TrO B W (sdT o t).rows c):((sdT o t).rows=[]/\c=none)∨((sdT o t).rows≠[]/\∃f g0 g1,c=some ⟨f [],0,none⟩/\TR W B (λp=>p=[]∨∃r∈(sdT o t).rows,p <+:r) (nN (sdT o t).vars.length (sdT o t).rows) (nN (sdT o t).vars.length (sdT o t).rows) f g0 g1):=by
 rcases h with h|⟨M,D,N,f,g0,g1,O,I,U,V⟩
 ·exact Or.inl h
 ·have K:TM (sdT o t).rows (λp=>p=[]∨∃r∈(sdT o t).rows,p <+:r) (nN (sdT o t).vars.length (sdT o t).rows):=qAt (yh o t).sl (yh o t).len;refine Or.inr ⟨M,f,g0,g1,O,U.iff I.dom λp hp=>?_⟩;refine uc (K.asc p ((I.dom p).1 hp)) (I.asc p hp) λy=>?_;rw[K.mem p ((I.dom p).1 hp) y,I.mem p hp y];exact(I.dom _).symm
open Meet
theorem qAn{P:Program}{t:TypeId}(d:Nat)(w:World)(y:Addr)(h:P.underlying t=some (.pointer e)):(Op.equalIn (d+1) t (.pointer none) (.pointer (some y))).run P w=.ok false w:=by simp[Op.equalIn,run_underlying h]
theorem qC3{P:Program}{t:TypeId}(w:World)(y:Addr)(h:P.underlying t=some (.pointer e)):(binOp .eql t (.pointer none) (.pointer (some y))).run P w=.ok (.bool false) w:=by
 simp only[binOp];simp[Op.equal,Op.maxDepth,qAn 9999 w y h]
def kJ(cs:List (Option Addr)):Bool:=decide (none∈cs)
theorem Xl(w:World)(B n:Nat)(v:Value)(cs:List (Option Addr))(h:w.ownsRow B 123 1 v n (cs.map Value.pointer))(U:cs.length=n)(hl:n<=1099511627776):
 Cl 107 #[v,.pointer none] w λe w'=>(∃k:Int,e=.returned (.int .i64 k)/\decide (0<=k)=kJ cs)/\w'=w:=by
 have HC:Hid (∀j,j < n->∃b o c,v=.slice (some ⟨b,o,none⟩) n c/\w.cell? ⟨b,o+j,none⟩=some (.pointer (cs.getD j none))):=hid λj hj=>by
  rcases h.2 with ⟨rfl,rfl⟩|⟨g,cap,cur,rfl,-⟩
  ·omega
  ·refine⟨g,0,cap,rfl,?_⟩;have:=h.cellAt (j:=j) Oo;rw[Nat.zero_add];rw[gD,bC Oo];refine this.trans ?_;rw[bN,bC Oo];rfl
 obtain⟨a,cap,rfl⟩:=xJ h;obtain⟨res,I⟩:∃r,r=kJ cs:=⟨_,rfl⟩;rw[<-I];have V:=hid I;have HN:=hid U;clear h U I;go_enter Tryz.func107,Tryz.ntmps107
 go_wp2;go_loop [8] (λt=>∃j:Nat,j<=n/\t=.int .i64 j/\Hid (∀i,i < j->cs.getD i none≠none)) (λt=>n - (intOf t).toNat)
 case atStart=>exact⟨0,nZ _,rfl,hid (λi hi=>Oo)⟩
 case round=>
  obtain⟨j,hj,rfl,K⟩:=hrel;by_cases M:j < n
  ·have i1:(j:Int) < (n:Int):=Oo;obtain⟨b,o,c,ea,c1⟩:=HC.out j M;cases ea
   have fin:cs.getD j none=none->Hid (res=true):=λe=>V.out.trans (decide_eq_true (by
    have h1:j < cs.length:=by rw[HN.out];exact M
    have:cs.getD j none∈cs:=by rw[gD,bC h1];exact gM _
    rw[e]at this;exact this))
   have nxt:cs.getD j none≠none->Hid (∀i,i < j+1->cs.getD i none≠none):=λe=>hid λi hi=>by
    by_cases e2:i=j
    ·rw[e2];exact e
    ·exact K.out i Oo
   clear K;generalize cs.getD j none=y at *;cases y with
   |none=>
    have O:=fin rfl;clear fin nxt;go_wp2;go_ret;exact⟨⟨_,rfl,by rw[O.out];simp⟩,rfl⟩
   |some y=>
    have O:=nxt Ss;clear fin nxt;have hq:∀w:World,(binOp .eql 123 (.pointer none) (.pointer (some y))).run Tryz.prog w=.ok (.bool false) w:=λw=>qC3 w y Tryz.underlying123;go_wp2;go_round
    case rel=>exact⟨j+1,Oo,Gg,O⟩
    case measure=>simp[intOf];omega
  ·obtain rfl:j=n:=Oo
   have O:Hid (res=false):=hid (V.out.trans (decide_eq_false (λhm=>by
    obtain⟨i,hi,e⟩:=gO hm;exact K.out i (by rw[<-HN.out];exact hi) (by rw[gD,bC hi];exact e))))
   have i1:¬((j:Int) < (j:Int)):=Oo;clear K;go_wp2;go_ret;exact⟨⟨_,rfl,by rw[O.out];simp⟩,rfl⟩
theorem Qp(w:World)(B n:Nat)(v:Value)(cs:List (Option Addr))(h:w.ownsRow B 123 1 v n (cs.map Value.pointer))(I:cs.length=n)(hl:n<=1099511627776):
 Cl 66 #[v,.pointer none] w λe w'=>e=.returned (.bool (kJ cs))/\w'=w:=by
 have K:=hid (Xl w B n v cs h I hl);generalize kJ cs=res at *;clear h;go_enter Tryz.func66,Tryz.ntmps66
 go_wp2_with (first|(go_at_call 107;refine K.out.mono ?_;rintro e w' ⟨⟨k,rfl,M⟩,rfl⟩))
 go_ret;exact⟨rfl,rfl⟩
theorem Ug(x:JX)(p:List Int)(I:List Int)(K:Int)(M:I=plc (λt=>x.H t p.length) x.nT):∀k,k<=x.nh p->(yR (x.bel p) I (λj=>x.f (x.tk p j) (prt (x.H (x.tk p j)) p++[K])) k).length=x.nT/\∀t,t < x.nT->((∃j,j < k/\x.tk p j=t)->(yR (x.bel p) I (λj=>x.f (x.tk p j) (prt (x.H (x.tk p j)) p++[K])) k)[t]?=some (.pointer (some ⟨x.f t (prt (x.H t) p++[K]),0,none⟩)))/\((¬∃j,j < k/\x.tk p j=t)->(yR (x.bel p) I (λj=>x.f (x.tk p j) (prt (x.H (x.tk p j)) p++[K])) k)[t]?=some (.pointer (some ⟨x.f t (prt (x.H t) p),0,none⟩)))
 |0,_=>⟨x.bel_len p,λt O=>⟨λ⟨j,hj,_⟩=>Oo,λ_=>Uf x p O⟩⟩
 |k+1,hk=>by
  obtain⟨h1,h2⟩:=Ug x p I K M k Oo;have U:k < x.nh p:=Oo;have V:(I.getD k 0).toNat=x.tk p k:=by rw[M];rfl
  have a2:=(x.tk_ok p U).1;refine⟨by show(List.set _ _ _).length=_;rw[List.length_set,h1],λt O=>?_⟩;show(_->((yR (x.bel p) I _ k).set (I.getD k 0).toNat _)[t]?=_)/\(_->((yR (x.bel p) I _ k).set (I.getD k 0).toNat _)[t]?=_);rw[V];by_cases e:x.tk p k=t
  ·subst e;rw[List.getElem?_set_self (by rw[h1];exact a2)];exact⟨λ_=>rfl,λhn=>absurd ⟨k,Oo,rfl⟩ hn⟩
  ·rw[List.getElem?_set_ne e];refine⟨λ⟨j,hj,ej⟩=>(h2 t O).1 ⟨j,?_,ej⟩,λhn=>(h2 t O).2 λ⟨j,hj,ej⟩=>hn ⟨j,Oo,ej⟩⟩;have:j≠k:=λe2=>e (by rw[<-e2];exact ej);omega
theorem qDB(x:JX)(p:List Int)(M:List Int)(I:Int)(O:M=plc (λt=>x.H t p.length) x.nT):yR (x.bel p) M (λj=>x.f (x.tk p j) (prt (x.H (x.tk p j)) p++[I])) (x.nh p)=x.bel (p++[I]):=by
 obtain⟨h1,h2⟩:=Ug x p M I O (x.nh p) (bK _);refine List.ext_getElem? λt=>?_;by_cases K:t < x.nT
 ·rw[Uf x (p++[I]) K,y9];cases hH:x.H t p.length
  ·rw[(h2 t K).2 λ⟨j,U,V⟩=>by have:=(x.tk_ok p U).2.1;rw[V,hH]at this;cases this];simp
  ·obtain⟨j,U,V⟩:=x.tk_all p K hH;rw[(h2 t K).1 ⟨j,U,V⟩];simp
 ·rw[gN (by rw[h1];omega),gN (by rw[x.bel_len];omega)]
theorem qEa(x:JX)(p:List Int):∀u∈x.bel p,u.oneCell'=true:=λu I=>by
 unfold JX.bel at I;obtain⟨t,-,rfl⟩:=List.mem_map.1 I;rfl
theorem VP(x:JX)(hx:x.Ok)(nxt:List Int->List Int)(no:Nat)(hm:JMx x nxt no)(l0:Nat)(w:World)(bB bH:Nat)(vp vb:Value)(p:List Int)(hp:p.length < no)(hd:x.Hd p)(i0:Dat x w)(i3:Brn x x.n0 w vp vb p)(j0:BrX w bB vp vb)(m0:x.n0<=bB)
 (j1:w.heap[bH]?=some (.cells #[x.uh.getD p.length undef] 25 (0,0))) (m1:x.n0<=bH) (m2:¬RBk x w bH):
 Gives Tryz.prog 129 #[.pointer (some ⟨bB,0,none⟩),.pointer (some ⟨bH,0,none⟩)] qAq (KpB x l0) (λ_ _ _=>True) (qFg x nxt p) (nxt p) w:=by
 intro l J Jx W a6 r5 r6 hJ m3 hY h0;show Calls _ _ #[.func (.yield l) #[] #[],.pointer (some ⟨bB,0,none⟩),.pointer (some ⟨bH,0,none⟩)] W _;obtain⟨tS,m4,m5⟩:=hm.some p.length hp;have f9:0 < x.nT:=Oo;have m6:x.n0<=w.heap.size:=by have:=j0.lt;omega
 have m7:KT x.n0 w W:=KT.of_below a6 m6;have j2:=i0.kt m7 hx;have a7:=i3.below a6;have b9:=j0.below a6;have a8:=(a6.block _ (qP j1)).trans j1;have i4:¬RBk x W bH:=λM=>m2 ((RBk.eq (a6.block _ (by have:=hx.r;omega)) _).1 M);have I:(x.hav.getD p.length []).length=x.nh p:=by rw[hm.hav _ hp];rfl
 have d0:IS W (x.uh.getD p.length undef) (x.hav.getD p.length []):=qK (j2.hq.each p.length (by rw[hm.hl];exact hp));have g4:x.nh p<=1000:=bQ (xK _ _) hm.lT;have e0:0 < x.nh p:=by obtain⟨j,K,-⟩:=x.tk_all p m4 m5;omega
 obtain⟨bb,cb,g5,-⟩:=x6 a7.bel (show 0 < x.nT from f9);obtain⟨ap,cp,m8⟩:=xJ a7.pre;obtain⟨vt,j3⟩:∃vt,vt=x.uh.getD p.length undef:=⟨_,rfl⟩;rw[<-j3]at a8 d0
 have m9:∀t,t < x.nT->W.cell? ⟨bb,t,none⟩=some (.pointer (some ⟨x.f t (prt (x.H t) p),0,none⟩)):=λt ht=>by
  have:=a7.bel;rw[g5]at this;rw[this.cellAt t Oo];exact Uf x p ht
 have KC:=hid (VM W vp vt bb x.nT cb (x.hav.getD p.length []) (x.nd p) ⟨_,_,_,m8⟩ d0 (by rw[I];exact g4)
  (λj K=>by rw[hm.hav _ hp,(x.tk_ok p (by rw[<-I];exact K)).2.2];have:=(x.tk_ok p (j:=j) (by rw[<-I];exact K)).1;omega)
  (λj K=>by rw[hm.hav _ hp,(x.tk_ok p (by rw[<-I];exact K)).2.2];have:=(x.tk_ok p (j:=j) (by rw[<-I];exact K)).1;rw[show((x.tk p j:Int)).toNat=x.tk p j by omega];exact m9 _ this))
 rw[I]at KC
 have c7:Hid (∀w1 v1,w1.ownsRow W.heap.size 182 2 v1 (x.nh p) (yd (x.nd p) (λ_=>0) (x.nh p))->Bl W w1->∃cu cc,v1=.slice (some ⟨cu,0,none⟩) (x.nh p) cc/\LG x W.heap.size w1 bB bH cu cc vp vb vt p (λ_=>0)):=hid λw1 v1 ho hb=>by
  have n3:KT x.n0 W w1:=KT.of_below hb (by have:=a6.size;omega);rcases ho.2 with ⟨-,h2⟩|⟨g,cap,cur,rfl,h3,h4,h5,h6,h7,h8⟩
  ·omega
  ·exact⟨g,cap,rfl,j2.kt n3 hx,a7.below hb,b9.below hb,m0,(hb.block _ (qP a8)).trans a8,m1,λM=>i4 ((RBk.eq (n3.bel.block _ hx.r) _).1 M),by have:=a6.size;omega,ho⟩
 have c0:=b9.c0;have c1:=b9.c1;have c2:W.cell? ⟨bH,0,none⟩=some vt:=by rw[cell_of_row _ _ _ _ _ _ a8];rfl
 subst m8;rw[g5]at c1;have n4:∃a n c,vt=.slice a n c:=by obtain⟨a,c,e,-⟩:=d0;exact⟨a,_,c,e⟩
 obtain⟨av,nv,cv,rfl⟩:=n4
 have KF:Hid (∀cu cc w1,LG x W.heap.size w1 bB bH cu cc (.slice ap p.length cp) vb (.slice av nv cv) p (λ_=>0)->Cl 131 #[.slice (some ⟨cu,0,none⟩) (x.nh p) cc] w1 λe w'=>∃i ga ca,i < x.nh p/\e=.returned (.slice (some ⟨ga,0,none⟩) (x.vl p i).length ca)/\x.g0 (x.tk p i) (prt (x.H (x.tk p i)) p)=.slice (some ⟨ga,0,none⟩) (x.vl p i).length ca/\Bl w1 w'):=hid λcu cc w1 hL=>by
  have hg:∀j,j < x.nh p->∃ga ca,x.g0 (x.tk p j) (prt (x.H (x.tk p j)) p)=.slice (some ⟨ga,0,none⟩) (x.vl p j).length ca:=λj K=>by
   obtain⟨M,h2,-⟩:=x.tk_ok p K;obtain⟨ga,ca,ea,-⟩:=x6 ((hL.dat.tr _ M).o0 _ (hd _ M)) (hm.more p hp hd _ M h2);exact⟨ga,ca,ea⟩
  refine(Ue w1 cu cc (x.nh p) (x.nd p) (λ_=>0) (λj=>slA (x.g0 (x.tk p j) (prt (x.H (x.tk p j)) p))) (λj=>slN (x.g0 (x.tk p j) (prt (x.H (x.tk p j)) p))) (λj=>slC (x.g0 (x.tk p j) (prt (x.H (x.tk p j)) p))) e0 g4 (λj K=>?_) (λj K=>?_)).mono ?_
  ·obtain⟨g1,g2⟩:=Ua (x.nd p) (λ_=>0) (x.nh p) j K;rw[hL.cur.cellAt (j*2) Oo,hL.cur.cellAt (j*2+1) Oo];exact⟨g1,g2⟩
  ·obtain⟨M,h2,-⟩:=x.tk_ok p K;obtain⟨ga,ca,ea⟩:=hg j K;rw[ea];have:=(hL.dat.tr _ M).c0 (hd _ M);rw[ea]at this;exact this
  ·rintro e w' ⟨i,hi,rfl,hb⟩;obtain⟨ga,ca,ea⟩:=hg i hi;exact⟨i,ga,ca,hi,by rw[ea];rfl,ea,hb⟩
 have HJ:=hid hJ;have t6:=hid m3;have r7:=hid hY;have H0:=hid h0;have HM:=hid hm;have HD:=hid hd;have HX:=hid hx;have n5:x.n0<=W.heap.size:=by have:=a6.size;omega
 have r8:=hid n5;have n6:=hid g5;have r9:=hid j3;clear j3 I d0 a7 b9 a8 i4 j2 m7 m6 j0 j1 i3 i0 m2 m0 m1 m9 a6 r5 r6 hJ m3 hY h0 tS m4 m5 f9 g5;clear hm hd hx n5;obtain⟨nh,e2⟩:∃nh,nh=x.nh p:=⟨_,rfl⟩;have O:=hid e2;rw[<-e2]at KC c7 KF g4 e0;clear e2;obtain⟨nT,e3⟩:∃nT,nT=x.nT:=⟨_,rfl⟩;have a9:=hid e3;rw[<-e3]at KC c1;clear e3;obtain⟨np,e4⟩:∃np,np=p.length:=⟨_,rfl⟩;have a4:=hid e4;rw[<-e4]at KC c0 c7 KF hp;clear e4;go_enter Tryz.func129,Tryz.ntmps129
 go_upto_region 1 with (first|(go_at_call 130;refine KC.out.mono ?_;rintro e w1 ⟨v1,rfl,e5,j4⟩)|fail)
 obtain⟨cu,cc,e1,j5⟩:=c7.out w1 v1 e5 j4;subst e1;have n8:=hid j4;have n9:=hid j5;have o2:=hid (KF.out cu cc w1 j5);clear e5 j4 j5 KC c7 KF c0 c1 c2;go_upto_block 0 with (first|(go_at_call 131;refine o2.out.mono ?_;rintro e w2 ⟨gi,ga,ca,e6,rfl,o3,j6⟩)|fail)
 have k0:=hid (bt n8.out j6);have o4:=hid (n9.out.below HX.out j6);have s1:=hid o3;obtain⟨L,hL⟩:∃L,L=x.vl p gi:=⟨_,rfl⟩;have t7:=hid (And.intro e6 hL)
 have k1:Hid (nxt p=L.filter λy=>x.all p y):=hid (by
  obtain⟨M,h2,-⟩:=x.tk_ok p (j:=gi) (by rw[<-O.out];exact e6);rw[HM.out.nx p (by rw[<-a4.out];exact hp) HD.out _ M h2,hL];refine List.filter_congr λy _=>?_;exact x.all_eq p y)
 have o5:Hid (L.Pairwise (·< ·)):=hid (by
  obtain⟨M,h2,-⟩:=x.tk_ok p (j:=gi) (by rw[<-O.out];exact e6);rw[hL];exact HM.out.asc _ M _ (HD.out _ M))
 have s2:L.length<=1000000:=by
  obtain⟨M,h2,-⟩:=x.tk_ok p (j:=gi) (by rw[<-O.out];exact e6);rw[hL];exact HM.out.len _ M _ (HD.out _ M)
 have o6:Hid (∀w3 q,LG x W.heap.size w3 bB bH cu cc (.slice ap np cp) vb (.slice av nv cv) p q->∀k,k < L.length->w3.cell? ⟨ga,k,none⟩=some (.int .i64 (L.getD k 0))):=hid λw3 q h3 k hk=>by
  obtain⟨M,h2,-⟩:=x.tk_ok p (j:=gi) (by rw[<-O.out];exact e6);have ho:=(h3.dat.tr _ M).o0 _ (HD.out _ M);rw[s1.out]at ho;have t8:k < (x.vl p gi).length:=by rw[<-hL];exact hk
  rw[ho.cellAt k (by show k < (x.vl p gi).length*1;omega)];show((x.vl p gi).map (Value.int .i64))[k]?=_;rw[<-hL,bN,bC hk,gD,bC hk];rfl
 rw[<-hL];clear j6 o3 hL o2 n8 n9;obtain⟨nL,k4⟩:∃nL,nL=L.length:=⟨_,rfl⟩;have d8:=hid k4;rw[<-k4]at o6 s2 ⊢;clear k4;have s3:Hid (W.heap.size<=w2.heap.size):=hid k0.out.size;go_wp2_with fail
 go_loopw [16] (λt wr=>∃(k:Nat),k<=nL/\t=.int .i64 k/\Hid (∃q X,J ((L.take k).filter λy=>x.all p y) X/\KT W.heap.size X wr/\LG x W.heap.size wr bB bH cu cc (.slice ap np cp) vb (.slice av nv cv) p q/\∀j,j < nh->q j < (x.vl p j).length/\(k < nL->∀m,m < q j->(x.vl p j).getD m 0 < L.getD k 0))) (λt _=>nL - (intOf t).toNat)
 case atStart=>exact⟨0,nZ _,rfl,hid ⟨_,W,H0.out,KT.of_below k0.out (bK _),o4.out,λj K=>⟨by
  obtain⟨M,h2,-⟩:=x.tk_ok p (j:=j) (by rw[<-O.out];exact K);exact HM.out.more p (by rw[<-a4.out];exact hp) HD.out _ M h2,λ_ m hm=>Oo⟩⟩⟩
 case round=>
  clear o4 k0 H0 s3;obtain⟨k,hk,rfl,HT⟩:=hrel;by_cases e7:k < nL
  ·have i1:(k:Int) < (nL:Int):=Oo;obtain⟨q0,X0,o7,i5,e8,k5⟩:=HT.out;have o8:=o6.out wr q0 e8 k e7;have k7:Hid (∃q X,J ((L.take k).filter λy=>x.all p y) X/\KT W.heap.size X wr/\LG x W.heap.size wr bB bH cu cc (.slice ap np cp) vb (.slice av nv cv) p q/\(∀j,j < nh->q j < (x.vl p j).length/\∀m,m < q j->(x.vl p j).getD m 0 < L.getD k 0)/\∀j,j < 0->(x.vl p j).getD (q j) 0=L.getD k 0):=hid ⟨q0,X0,o7,i5,e8,λj K=>⟨(k5 j K).1,(k5 j K).2 e7⟩,λj K=>Oo⟩;have s4:Hid (L.getD k 0∈L):=hid (xz (by rw[<-d8.out];exact e7));have c9:Hid (∀k',k < k'->k' < nL->L.getD k 0 < L.getD k' 0):=hid λk' M h2=>uv o5.out k k' M (by rw[<-d8.out];exact h2);have k8:Hid (L.take (k+1)=L.take k++[L.getD k 0]):=hid (zA (by rw[<-d8.out];exact e7));clear o7 i5 e8 k5 HT;obtain⟨U,k9⟩:∃U,U=L.getD k 0:=⟨_,rfl⟩;have s5:=hid k9;rw[<-k9]at o8 k7 s4 c9 k8;clear k9;generalize wr=wo at *;go_upto_region 5 with (first|go_step3|fail)
   clear o8;go_wp2_with fail
   go_loopw [7,22] (λv7 t wr=>∃(i:Nat),i<=nh/\v7=.int .i64 i/\t=.int .i64 i/\Hid (∃q X,J ((L.take k).filter λy=>x.all p y) X/\KT W.heap.size X wr/\LG x W.heap.size wr bB bH cu cc (.slice ap np cp) vb (.slice av nv cv) p q/\(∀j,j < nh->q j < (x.vl p j).length/\∀m,m < q j->(x.vl p j).getD m 0 < U)/\∀j,j < i->(x.vl p j).getD (q j) 0=U)) (λ_ t _=>nh - (intOf t).toNat)
   case atStart=>exact⟨0,nZ _,rfl,rfl,k7⟩
   case round=>
    clear k7;obtain⟨i,t9,rfl,rfl,HT⟩:=hrel;obtain⟨q,X,o9,p1,i6,p2,p3⟩:=HT.out;have g6:=hid o9;have l1:=hid p1;have V:=hid i6;have b7:=hid p2;have l2:=hid p3;clear HT o9 p1 i6 p2 p3;by_cases e9:i < nh
    ·have i2:(i:Int) < (nh:Int):=Oo;have a5:i < x.nh p:=by rw[<-O.out];exact e9
     have p4:=hid (V.out.seek_calls HX.out HM.out (by rw[<-a4.out];exact hp) HD.out a5 U (b7.out i e9).1 (b7.out i e9).2);go_upto_region 10 with (first|(go_at_call 132;refine p4.out.mono ?_;rintro e w5 ⟨⟨v5,rfl⟩,vq,p5⟩)|fail)
     have a2:=hid p5;clear p5 p4;have f4:=hid (l1.out.trans a2.out.kt);have KE:=hid (a2.out.lg.ended_calls HM.out (by rw[<-a4.out];exact hp) HD.out a5);have s6:(if i=i then vq else q i)=vq:=if_pos rfl;rw[s6]at KE;by_cases i7:vq=(x.vl p i).length
     ·rw[decide_eq_true i7]at KE
      have HF:Hid (∀d,J (nxt p) (w5.drewN d)):=hid λd=>by
       have l3:nxt p=(L.take k).filter λy=>x.all p y:=by
        rw[k1.out];conv=>lhs;rw[<-tD k L]
        rw[List.filter_append]
        have:(L.drop k).filter (λy=>x.all p y)=[]:=List.filter_eq_nil_iff.2 λz hz a3=>by
         obtain⟨m,s7,l4⟩:=gO hz;rw[List.length_drop]at s7;rw[List.getElem_drop]at l4
         have u4:U<=z:=by
          by_cases e:m=0
          ·subst e;rw[s5.out,gD,bC (by rw[<-d8.out];exact e7),<-l4];exact Int.le_refl _
          ·have:=c9.out (k+m) Oo (by rw[d8.out];omega);rw[gD,bC Oo]at this;have h9:(some L[k+m]).getD 0=z:=l4;rw[h9]at this;omega
         unfold JX.all at a3;rw[bY]at a3;have l5:=of_decide_eq_true (a3 i (List.mem_range.2 a5));obtain⟨m',p6,e'⟩:=zz l5;have:=a2.out.lo m' Oo;omega
        rw[this,List.append_nil]
       rw[l3];exact HJ.out _ _ _ g6.out (f4.out.trans (KT.of_below (below_drewN (bM _ _) d) (by have:=f4.out.bel.size;have:=r8.out;have h8:=a2.out.lg.cur.lt cu rfl;omega)))
      go_wp2_with (first|(go_at_call 133;refine KE.out.mono ?_;rintro e w6 ⟨rfl,d6,rfl⟩)|fail)
      simp only[Exit.noGoto,Exit.inBlock,Exit.then];refine bodyPost_ret (P:=Tryz.prog) (fn:=Tryz.f129) (R:=λe W'=>(∃v,e=.returned v)/\(J (nxt p) W'∨Jx W')) (results_none rfl _ _ _) rfl ?_;exact⟨⟨_,rfl⟩,Or.inl (HF.out d6)⟩
     ·rw[decide_eq_false i7]at KE;have l6:vq < (x.vl p i).length:=by have:=a2.out.le;omega
      have KV:Hid (∀d,Cl 134 #[.pointer (some ⟨cu,i*2,none⟩)] (w5.drewN d) λe w'=>e=.returned (.int .i64 ((x.vl p i).getD vq 0))/\∃d',w'=(w5.drewN d).drewN d'):=hid λd=>by
       have:=(a2.out.lg.below HX.out (below_drewN (bM _ _) d)).value_calls HM.out (by rw[<-a4.out];exact hp) HD.out a5 (by rw[if_pos rfl];exact l6);rw[if_pos rfl]at this;exact this
      have g7:Hid (∀d,KT W.heap.size X (w5.drewN d)/\LG x W.heap.size (w5.drewN d) bB bH cu cc (.slice ap np cp) vb (.slice av nv cv) p (λj=>if j=i then vq else q j)):=hid λd=>⟨f4.out.trans (KT.of_below (below_drewN (bM _ _) d) (by have h8:=a2.out.lg.cur.lt cu rfl;omega)),a2.out.lg.below HX.out (below_drewN (bM _ _) d)⟩
      have l7:Hid (∀j,j < nh->(if j=i then vq else q j) < (x.vl p j).length/\∀m,m < (if j=i then vq else q j)->(x.vl p j).getD m 0 < U):=hid λj K=>by
       by_cases e:j=i
       ·subst e;rw[if_pos rfl];exact⟨l6,a2.out.lo⟩
       ·rw[if_neg e];exact b7.out j K
      obtain⟨z,hz⟩:∃z,z=(x.vl p i).getD vq 0:=⟨_,rfl⟩;rw[<-hz]at KV;by_cases d9:z=U
      ·have s8:Hid (∀j,j < i+1->(x.vl p j).getD (if j=i then vq else q j) 0=U):=hid λj K=>by
        by_cases e:j=i
        ·subst e;rw[if_pos rfl,<-hz];exact d9
        ·rw[if_neg e];exact l2.out j Oo
       have q1:(z != U)=false:=by simp[d9]
       clear hz d9;go_wp2_with (first|(go_at_call 133;refine KE.out.mono ?_;rintro e w6 ⟨rfl,d6,rfl⟩)|(go_at_call 134;refine(KV.out d6).mono ?_;rintro e w7 ⟨rfl,d7,rfl⟩)|fail)
       have HN:Hid (∃q X,J ((L.take k).filter λy=>x.all p y) X/\KT W.heap.size X (w5.drewN (d6+d7))/\LG x W.heap.size (w5.drewN (d6+d7)) bB bH cu cc (.slice ap np cp) vb (.slice av nv cv) p q/\(∀j,j < nh->q j < (x.vl p j).length/\∀m,m < q j->(x.vl p j).getD m 0 < U)/\∀j,j < i+1->(x.vl p j).getD (q j) 0=U):=hid ⟨_,X,g6.out,(g7.out (d6+d7)).1,(g7.out (d6+d7)).2,l7.out,s8.out⟩;go_roundw
       case rel=>exact⟨i+1,Oo,Gg,Gg,HN⟩
       case measure=>simp[intOf];omega
      ·have q1:(z != U)=true:=by simp[d9]
       have g9:Hid ((L.take (k+1)).filter (λy=>x.all p y)=(L.take k).filter λy=>x.all p y):=hid (by
        rw[k8.out,List.filter_append]
        have:[U].filter (λy=>x.all p y)=[]:=List.filter_eq_nil_iff.2 λy hy a3=>by
         rw[List.mem_singleton]at hy;subst hy;unfold JX.all at a3;rw[bY]at a3;have l5:=of_decide_eq_true (a3 i (List.mem_range.2 a5));obtain⟨m',p6,e'⟩:=zz l5;obtain⟨M,h2,-⟩:=x.tk_ok p (j:=i) a5;have p7:=uv (HM.out.asc _ M _ (HD.out _ M));rcases Nat.lt_trichotomy m' vq with h|h|h
         ·have:=a2.out.lo m' h;omega
         ·rw[h]at e';exact d9 (hz.trans e')
         ·have h3:=a2.out.hi vq (bK _) l6;have h4:=p7 vq m' h p6;have h5:(x.N (x.tk p i) (prt (x.H (x.tk p i)) p)).getD m' 0=y:=e';have h6:y<=(x.N (x.tk p i) (prt (x.H (x.tk p i)) p)).getD vq 0:=h3;omega
        rw[this,List.append_nil])
       have qs:((i:Int) == (nh:Int))=false:=by simp;omega
       clear hz d9;go_upto_region 14 with (first|(go_at_call 133;refine KE.out.mono ?_;rintro e w6 ⟨rfl,d6,rfl⟩)|(go_at_call 134;refine(KV.out d6).mono ?_;rintro e w7 ⟨rfl,d7,rfl⟩)|fail)
       have HN:Hid (∃q X,J ((L.take (k+1)).filter λy=>x.all p y) X/\KT W.heap.size X (w5.drewN (d6+d7))/\LG x W.heap.size (w5.drewN (d6+d7)) bB bH cu cc (.slice ap np cp) vb (.slice av nv cv) p q/\∀j,j < nh->q j < (x.vl p j).length/\(k+1 < nL->∀m,m < q j->(x.vl p j).getD m 0 < L.getD (k+1) 0)):=hid ⟨_,X,by rw[g9.out];exact g6.out,(g7.out (d6+d7)).1,(g7.out (d6+d7)).2,λj K=>⟨(l7.out j K).1,λl8 m hm=>by
        have M:=(l7.out j K).2 m hm;have h2:=c9.out (k+1) Oo l8;omega⟩⟩
       go_wp2_with fail
       simp only[Exit.noGoto,Exit.inBlock,Exit.then];go_wp2_with fail
       go_roundw
       case rel=>exact⟨k+1,Oo,Gg,HN⟩
       case measure=>simp[intOf];omega
    ·obtain rfl:i=nh:=Oo;have i2:¬((i:Int) < (i:Int)):=Oo;have qs:((i:Int) == (i:Int))=true:=Ss
     have g9:Hid ((L.take (k+1)).filter (λy=>x.all p y)=((L.take k).filter λy=>x.all p y)++[U]):=hid (by
      rw[k8.out,List.filter_append]
      have:x.all p U=true:=by
       unfold JX.all;rw[bY];intro j K;have p8:j < i:=by rw[O.out];exact List.mem_range.1 K
       refine decide_eq_true ?_;rw[<-l2.out j p8];exact xz (b7.out j p8).1
      rw[List.filter_cons,if_pos this];rfl)
     have s9:Hid (((L.take k).filter λy=>x.all p y)++[U] <+:nxt p):=hid (by rw[k1.out,<-g9.out];exact(List.take_prefix _ _).filter _);go_upto_region 14 with fail
     refine(wpIn_wide (n:=0)).1 ?_;have b0:=V.out.bx.c0;have b1:=V.out.bx.c1;have b2:wr.cell? ⟨bH,0,none⟩=some (.slice av nv cv):=by rw[cell_of_row _ _ _ _ _ _ V.out.bh];rfl
     have t0:Hid (Cl 135 #[.agg #[.slice ap np cp,vb],.int .i64 U,.slice av nv cv,.slice (some ⟨cu,0,none⟩) i cc] wr λe w'=>∃g c g' c',e=.returned (.agg #[.slice (some ⟨g,0,none⟩) (np+1) c,.slice (some ⟨g',0,none⟩) nT c'])/\Bl wr w'/\Brn x X.heap.size w' (.slice (some ⟨g,0,none⟩) (np+1) c) (.slice (some ⟨g',0,none⟩) nT c') (p++[U])):=hid (by
      have hL:=V.out;have f7:p.length < no:=by rw[<-a4.out];exact hp
      have t1:=HM.out.hl;have l9:=HM.out.hav p.length f7;have I:(x.hav.getD p.length []).length=i:=by rw[l9,O.out];rfl
      have eb:vb=.slice (some ⟨bb,0,none⟩) nT cb:=by rw[a9.out];exact n6.out
      have hb:=hL.brn.bel;rw[eb,<-a9.out]at hb;have d0:IS wr (.slice av nv cv) (x.hav.getD p.length []):=by rw[r9.out];exact qK (hL.dat.hq.each p.length (by rw[t1];exact f7))
      have p9:X.heap.size<=wr.heap.size:=l1.out.bel.size;have q3:wr.ownsRow x.n0 3 1 (.slice ap np cp) p.length (p.map (Value.int .i64)):=hL.brn.pre;have t2:0 < i:=e0;have f9:0 < nT:=by rw[a9.out];have:=(x.tk_ok p (j:=0) (by rw[<-O.out];exact t2)).1;omega
      have:=qAp wr x.n0 x.n0 bb nT cb cu cc (.slice ap np cp) (.slice av nv cv) p (x.hav.getD p.length []) (x.bel p) U (λj=>x.f (x.tk p j) (prt (x.H (x.tk p j)) p++[U])) q3 (by have:=HM.out.lo;omega) hb (qEa x p) f9 (by rw[a9.out];exact HM.out.lT) d0 (by rw[I];exact g4)
       (λj K=>by
        rw[I,O.out]at K;obtain⟨M,-,h3⟩:=x.tk_ok p K;rw[l9,h3,a9.out];omega)
       (λW' t3 j K=>by
        rw[I]at K;exact(hL.below HX.out t3).below_calls HM.out f7 HD.out (by rw[<-O.out];exact K) (b7.out j K).1 (l2.out j K))
      rw[I,<-eb]at this;refine this.mono ?_;rintro e w' ⟨g,c,g',c',rfl,e5,q4,t4⟩;rw[O.out,qDB x p _ U l9,a9.out]at q4;rw[<-a4.out]at e5;refine⟨g,c,g',c',by rw[<-a4.out],t4,⟨?_,?_⟩⟩
      ·rw[lA,lS,<-a4.out];exact qF e5 p9
      ·rw[a9.out];exact qF q4 p9)
     have q6:Hid (∀w8,Bl wr w8->KT W.heap.size X w8/\LG x W.heap.size w8 bB bH cu cc (.slice ap np cp) vb (.slice av nv cv) p q):=hid λw8 f8=>⟨l1.out.trans (KT.of_below f8 (by have h8:=V.out.cur.lt cu rfl;omega)),V.out.below HX.out f8⟩;have i8:Hid (np=p.length/\nT=x.nT):=hid ⟨a4.out,a9.out⟩;gi_wp2_with (first|(refine⟨trivial,rfl,?_⟩;gi_at_call 135;refine(callsIn_wide.2 t0.out).mono ?_;rintro e w8 ⟨g8,c8,q7,q8,rfl,f8,q9⟩;obtain⟨fn,tmps,assign,body,hy,hR⟩:=r7.out _ U (.slice (some ⟨g8,0,none⟩) (np+1) c8,.slice (some ⟨q7,0,none⟩) nT q8) X w8 g6.out (q6.out w8 f8).1 ⟨q9,s9.out,⟨g8,c8,by rw[<-i8.out.1]⟩,⟨q7,q8,by rw[<-i8.out.2]⟩⟩;dsimp only[qAq]at hy)|fail)
     have t5:=hid (q6.out w8 f8).2;refine⟨rfl,?_⟩;refine hR.mono ?_;rintro e w9 (⟨rfl,r0,r1⟩|⟨rfl,r2,-⟩)
     ·have HN:Hid (∃q X,J ((L.take (k+1)).filter λy=>x.all p y) X/\KT W.heap.size X w9/\LG x W.heap.size w9 bB bH cu cc (.slice ap np cp) vb (.slice av nv cv) p q/\∀j,j < i->q j < (x.vl p j).length/\(k+1 < nL->∀m,m < q j->(x.vl p j).getD m 0 < L.getD (k+1) 0)):=hid ⟨q,w9,by rw[g9.out];exact r0,KT.refl _ _,t5.out.kp HX.out r1,λj K=>⟨(b7.out j K).1,λl8 m hm=>by
       have M:=(b7.out j K).2 m hm;have h2:=c9.out (k+1) Oo l8;omega⟩⟩
      clear r0 r1 hR hy;gi_wp2
      go_wp2_with fail
      simp only[Exit.noGoto,Exit.inBlock,Exit.then];go_wp2_with fail
      go_roundw
      case rel=>exact⟨k+1,Oo,Gg,HN⟩
      case measure=>simp[intOf];omega
     ·clear hR hy;gi_wp2
      go_wp2_with fail
      simp only[Exit.noGoto,Exit.inBlock,Exit.then];refine bodyPost_ret (P:=Tryz.prog) (fn:=Tryz.f129) (R:=λe W'=>(∃v,e=.returned v)/\(J (nxt p) W'∨Jx W')) (results_none rfl _ _ _) rfl ?_;exact⟨⟨_,rfl⟩,Or.inr r2⟩
  ·obtain rfl:k=nL:=Oo;have i1:¬((k:Int) < (k:Int)):=Oo;obtain⟨q,X,r3,i9,r4,-⟩:=HT.out
   have HF:Hid (J (nxt p) wr):=hid (by
    have:=HJ.out _ _ _ r3 i9;rw[d8.out,tL,<-k1.out]at this;exact this)
   clear r3 i9 r4 HT;go_wp2_with fail
   go_end0
   exact⟨⟨_,rfl⟩,Or.inl HF.out⟩
theorem Xm(w:World)(a0 a1:Option Addr)(n0 c0 n1 c1:Nat):
 Cl 34 #[.slice a0 n0 c0,.slice a1 n1 c1] w λe w'=>e=.returned (.func (.func 64) #[] #[.pointer (some ⟨w.heap.size,0,none⟩),.pointer (some ⟨w.heap.size+1,0,none⟩)])/\w'=(w.alloc (.cells #[.slice a0 n0 c0] 23)).alloc (.cells #[.slice a1 n1 c1] 25):=by
 go_enter Tryz.func34,Tryz.ntmps34
 go_wp2;go_ret;exact⟨rfl,rfl⟩
def jx0(h r v:Nat):JX:=mkX h r v 0 [] [] (λ_ _=>0) (λ_ _=>undef) (λ_ _=>undef) undef []
section
variable {h r v n0:Nat} {tl:List TbV} {o:List Int} {f:Nat->List Int->Nat} {g0 g1:Nat->List Int->Value} {hv:Value} {uh:List Value} {S:Nat->Prop} {X Y:World}
theorem kp0(k:KpS (jx0 h r v) S X Y):KpS (mkX h r v n0 tl o f g0 g1 hv uh) S X Y:=⟨k.os,k.tape,k.output,k.size,k.same,k.fresh,k.typ⟩
end
def qC6(no:Nat)(tot pre:List (List Int))(p:List Int)(vp:Value)(X Y:World):Prop:=Y.ownsRow X.heap.size 3 1 vp p.length (p.map (Value.int .i64))/\p.length<=no/\(∃g c,vp=.slice (some ⟨g,0,none⟩) p.length c)/\pre++[p] <+:tot
def zH(tl:List TbV)(o:List Int):List (List Int):=if xB tl then [] else zE (nxJ tl o) o.length []
theorem K9{cs:List (Option Addr)}(hl:cs.length=tl.length)(hT:∀t,t < tl.length->TrO B W ((tl.map λt=>(sdT o t).rows).getD t []) (cs.getD t none)):kJ cs=xB tl:=by
 have K:∀t,t < tl.length->TrO B W (sdT o (tl.getD t qC)).rows (cs.getD t none):=λt M=>by
  have:=hT t M;rw[gD,bN,bC M]at this;have e3:tl.getD t qC=tl[t]:=by rw[gD,bC M];rfl
  rw[e3];exact this
 have hE:∀t:TbV,(sdT o t).rows=[]↔t.rows.length=0:=λt=>by
  constructor
  ·intro h;by_cases e:t.rows=[]
   ·rw[e];rfl
   ·exact absurd h (qB1 (by simpa using e))
  ·intro h;have:t.rows=[]:=List.eq_nil_of_length_eq_zero h;show srt (t.rows.map _)=[];rw[this];exact vk Ss
 unfold kJ xB;rw[Bool.eq_iff_iff,dE,List.any_eq_true];constructor
 ·intro h;obtain⟨i,hi,e⟩:=gO h;have O:i < tl.length:=Oo;refine⟨tl.getD i qC,Qg O,decide_eq_true ?_⟩;have U:=K i O;have e2:cs.getD i none=none:=by rw[gD,bC hi];exact e
  rw[e2]at U;rcases U with ⟨I,-⟩|⟨-,D,N,f,g0,g1,I,-⟩
  ·exact(hE _).1 I
  ·cases I
 ·rintro⟨t,M,U⟩;obtain⟨i,hi,rfl⟩:=gO M;have I:=K i hi;have e3:tl.getD i qC=tl[i]:=by rw[gD,bC hi];rfl
  rw[e3]at I;have h3:=(hE _).2 (of_decide_eq_true U);rcases I with ⟨-,V⟩|⟨V,-⟩
  ·rw[gD,bC Oo]at V;have:cs[i]' Oo∈cs:=gM _;have h5:cs[i]' Oo=none:=V;rw[h5]at this;exact this
  ·exact absurd h3 V
theorem qC7{cs:List (Option Addr)}(hl:cs.length=tl.length)(hT:∀t,t < tl.length->TrO B W ((tl.map λt=>(sdT o t).rows).getD t []) (cs.getD t none))(U:xB tl=false):
 ∃(f:Nat->List Int->Nat) (g0 g1:Nat->List Int->Value),cs=(List.range tl.length).map (λt=>some ⟨f t [],0,none⟩)/\∀t,t < tl.length->TR W B (λp=>p=[]∨∃r∈(sdT o (tl.getD t qC)).rows,p <+:r) (nN (sdT o (tl.getD t qC)).vars.length (sdT o (tl.getD t qC)).rows) (nN (sdT o (tl.getD t qC)).vars.length (sdT o (tl.getD t qC)).rows) (f t) (g0 t) (g1 t):=by
 have I:=U;rw[<-K9 hl hT]at I;have hn:none∉cs:=of_decide_eq_false I
 have V:∀t,t < tl.length->∃f g0 g1,cs.getD t none=some ⟨f [],0,none⟩/\TR W B (λp=>p=[]∨∃r∈(sdT o (tl.getD t qC)).rows,p <+:r) (nN (sdT o (tl.getD t qC)).vars.length (sdT o (tl.getD t qC)).rows) (nN (sdT o (tl.getD t qC)).vars.length (sdT o (tl.getD t qC)).rows) f g0 g1:=λt K=>by
  have h1:=hT t K;rw[gD,bN,bC K]at h1;have e3:tl.getD t qC=tl[t]:=by rw[gD,bC K];rfl
  rw[e3];rcases TrO.tr (h1:TrO B W (sdT o tl[t]).rows _)with ⟨-,M⟩|⟨-,M⟩
  ·exfalso;rw[gD,bC Oo]at M;have h3:cs[t]' Oo=none:=M;have h4:cs[t]' Oo∈cs:=gM _;rw[h3]at h4;exact hn h4
  ·exact M
 have hC:∀t,∃O:(List Int->Nat)×(List Int->Value)×(List Int->Value),t < tl.length->cs.getD t none=some ⟨O.1 [],0,none⟩/\TR W B (λp=>p=[]∨∃r∈(sdT o (tl.getD t qC)).rows,p <+:r) (nN (sdT o (tl.getD t qC)).vars.length (sdT o (tl.getD t qC)).rows) (nN (sdT o (tl.getD t qC)).vars.length (sdT o (tl.getD t qC)).rows) O.1 O.2.1 O.2.2:=λt=>by
  by_cases K:t < tl.length
  ·obtain⟨f,g0,g1,h⟩:=V t K;exact⟨(f,g0,g1),λ_=>h⟩
  ·exact⟨(λ_=>0,λ_=>undef,λ_=>undef),λh=>absurd h K⟩
 obtain⟨F,hF⟩:=Classical.axiomOfChoice hC;refine⟨λt=>(F t).1,λt=>(F t).2.1,λt=>(F t).2.2,?_,λt K=>(hF t K).2⟩;refine List.ext_getElem? λi=>?_;by_cases hi:i < tl.length
 ·rw[bN,List.getElem?_range hi];have:=(hF i hi).1;rw[gD,bC Oo]at this;rw[bC Oo];exact congrArg some this
 ·rw[gN Oo,gN (by simp;omega)]
end Go.Proofs.YtkaipapdlnojiaaGreat
