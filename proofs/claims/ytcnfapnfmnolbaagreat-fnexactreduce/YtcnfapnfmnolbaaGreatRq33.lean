import Derived.RangeFuncBox
import Derived.Test.YtcnfapnfmnolbaaGreatRq32
set_option maxHeartbeats 40000000
set_option maxRecDepth 1000000
namespace Go.Proofs.YtcnfapnfmnolbaaGreat
open Go.RowKit Meet
variable {o:LI}{ps:LL}{tl:List TbV}{us:List Value}{B C h i k r v:Nat}{t:TypeId}{vr:Value}{W X Y w3:World}
theorem Yu(w:World)(a0 a1:Option Addr)(n0 c0 I c1:Nat):
 Cl 73 #[.slice a0 n0 c0,.slice a1 I c1] w λe w'=>e=.returned (.func (.func 106) #[] #[.pointer (some (az w.1.size 0)),.pointer (some (az (w.1.size+1) 0))])/\w'=(w.alloc (.cells #[.slice a0 n0 c0] 32)).alloc (.cells #[.slice a1 I c1] 24):=by
 go_enter Tryz.func73,Tryz.ntmps73;go_wp2;go_ret;exact⟨rfl,rfl⟩
def jx0(h r v:Nat):JX:=mkX h r v 0 [] [] (λ_ _=>0) (λ_ _=>undef) (λ_ _=>undef) undef []
section
variable {h r v n0:Nat} {tl:List TbV} {o:LI} {f:Nat->LI->Nat} {g0 g1:Nat->LI->Value} {hv:Value} {uh:List Value} {S:Nat->Prop} {X Y:World}
theorem kp0(k:KpS (jx0 h r v) S X Y):KpS (mkX h r v n0 tl o f g0 g1 hv uh) S X Y:=⟨k.os,k.tape,k.output,k.size,k.same,k.fresh,k.typ⟩
end
def qDt(no:Nat)(tot pre:LL)(p:LI)(vp:Value)(X Y:World):Prop:=Y.ownsRow X.1.size 3 1 vp p.length (p.map ai)/\p.length<=no/\(∃g c,vp=.slice (some (az g 0)) p.length c)/\pre++[p] <+:tot
def zJ(tl:List TbV)(o:LI):LL:=if xC tl then [] else zE (nxJ tl o) o.length []
theorem qA5{cs:List (Option Addr)}(hl:cs.length=tl.length)(hT:∀t,t<tl.length->TrO B W ((tl.map λt=>(sdT o t).rows).getD t []) (cs.getD t none)):kg cs=xC tl:=by
 have K:∀t,t<tl.length->TrO B W (sdT o (tl.getD t qA)).rows (cs.getD t none):=λt M=>by
  have:=hT t M;rw[gD,bK,gE M]at this;have e3:tl.getD t qA=tl[t]:=by rw[gD,gE M];rfl
  rw[e3];exact this
 have hE:∀t:TbV,(sdT o t).rows=[]↔t.rows.length=0:=λt=>by
  constructor
  ·intro h;by_cases e:t.rows=[];rw[e];rfl;exact absurd h (qCq (by simpa using e))
  intro h;have:t.rows=[]:=List.eq_nil_of_length_eq_zero h;show srt (t.rows.map _)=[];rw[this];exact uX Ss
 unfold kg xC;rw[Bool.eq_iff_iff,dE,List.any_eq_true];constructor
 ·intro h;obtain⟨i,hi,e⟩:=gO h;have O:i<tl.length:=Oo;refine⟨tl.getD i qA,kC O,decide_eq_true ?_⟩;have U:=K i O;have e2:cs.getD i none=none:=by rw[gD,gE hi];exact e
  rw[e2]at U;rcases U with ⟨I,-⟩|⟨-,D,N,f,g0,g1,I,-⟩;exact(hE _).1 I;cases I
 rintro⟨t,M,U⟩;obtain⟨i,hi,rfl⟩:=gO M;have I:=K i hi;have e3:tl.getD i qA=tl[i]:=by rw[gD,gE hi];rfl
 rw[e3]at I;have h3:=(hE _).2 (of_decide_eq_true U);rcases I with ⟨-,V⟩|⟨V,-⟩;rw[gD,gE Oo]at V;have:cs[i]' Oo∈cs:=gM _;have h5:cs[i]' Oo=none:=V;rw[h5]at this;exact this;exact absurd h3 V
theorem qDu{cs:List (Option Addr)}(hl:cs.length=tl.length)(hT:∀t,t<tl.length->TrO B W ((tl.map λt=>(sdT o t).rows).getD t []) (cs.getD t none))(U:xC tl=false):
 ∃(f:Nat->LI->Nat) (g0 g1:Nat->LI->Value),cs=(List.range tl.length).map (λt=>some (az (f t []) 0))/\∀t,t<tl.length->TR W B (λp=>p=[]∨∃r∈(sdT o (tl.getD t qA)).rows,p <+:r) (nN (sdT o (tl.getD t qA)).vars.length (sdT o (tl.getD t qA)).rows) (nN (sdT o (tl.getD t qA)).vars.length (sdT o (tl.getD t qA)).rows) (f t) (g0 t) (g1 t):=by
 have I:=U;rw[<-qA5 hl hT]at I;have hn:none∉cs:=of_decide_eq_false I;have V:∀t,t<tl.length->∃f g0 g1,cs.getD t none=some (az (f []) 0)/\TR W B (λp=>p=[]∨∃r∈(sdT o (tl.getD t qA)).rows,p <+:r) (nN (sdT o (tl.getD t qA)).vars.length (sdT o (tl.getD t qA)).rows) (nN (sdT o (tl.getD t qA)).vars.length (sdT o (tl.getD t qA)).rows) f g0 g1:=λt K=>by
  have h1:=hT t K;rw[gD,bK,gE K]at h1;have e3:tl.getD t qA=tl[t]:=by rw[gD,gE K];rfl
  rw[e3];rcases TrO.tr (h1:TrO B W (sdT o tl[t]).rows _)with ⟨-,M⟩|⟨-,M⟩;exfalso;rw[gD,gE Oo]at M;have h3:cs[t]' Oo=none:=M;have h4:cs[t]' Oo∈cs:=gM _;rw[h3]at h4;exact hn h4;exact M
 have hC:∀t,∃O:(LI->Nat)×(LI->Value)×(LI->Value),t<tl.length->cs.getD t none=some (az (O.1 []) 0)/\TR W B (λp=>p=[]∨∃r∈(sdT o (tl.getD t qA)).rows,p <+:r) (nN (sdT o (tl.getD t qA)).vars.length (sdT o (tl.getD t qA)).rows) (nN (sdT o (tl.getD t qA)).vars.length (sdT o (tl.getD t qA)).rows) O.1 O.2.1 O.2.2:=λt=>by
  by_cases K:t<tl.length;obtain⟨f,g0,g1,h⟩:=V t K;exact⟨(f,g0,g1),λ_=>h⟩;exact⟨(λ_=>0,λ_=>undef,λ_=>undef),λh=>absurd h K⟩
 obtain⟨F,hF⟩:=Classical.axiomOfChoice hC;refine⟨λt=>(F t).1,λt=>(F t).2.1,λt=>(F t).2.2,?_,λt K=>(hF t K).2⟩;refine List.ext_getElem? λi=>?_;by_cases hi:i<tl.length;rw[bK,List.getElem?_range hi];have:=(hF i hi).1;rw[gD,gE Oo]at this;rw[gE Oo];exact congrArg some this;rw[gN Oo,gN Sy]
theorem TyR.below{x:JX}(h:TyR x X)(hb:Bl X Y)(K:x.r<X.1.size):TyR x Y:=λk M=>by
 obtain⟨cur,z,I⟩:=h k ((RBk.eq (hb.block _ K) k).1 M);exact⟨cur,z,(hb.block k (qW I)).trans I⟩
theorem TyR.old{x:JX}(h:TyR x X)(hb:Bl X Y)(I:x.r<X.1.size)(K:RBk x Y k):k<X.1.size:=by
 obtain⟨cur,z,M⟩:=h k ((RBk.eq (hb.block _ I) k).1 K);exact qW M
theorem qDv{w2 w4:World}{vp vb hvv:Value}{cs:List (Option Addr)}{l:Nat}(hh:h<W.1.size)(hr:r<W.1.size)(hv:v<W.1.size)(hl:l<W.1.size)(a9:TyR (jx0 h r v) W)
 (b0:∀t∈tl,qU t=true) (hc:Qq tl o) (b1:tl.length<=1000) (b7:o.length<=1000) (K:xC tl=false)
 (b8:cs.length=tl.length) (hT:∀t,t<tl.length->TrO W.1.size w2 ((tl.map λt=>(sdT o t).rows).getD t []) (cs.getD t none)) (hp:w2.ownsRow W.1.size 3 1 vp 0 []) (hb:w2.ownsRow W.1.size 111 1 vb tl.length (cs.map Value.pointer)) (b9:∃g c,vp=.slice (some (az g 0)) 0 c)
 (a4:Bl W w2) (a5:Bl w2 w3) (c7:Bl w3 w4) (hQ:RQ w4 w3.1.size hvv us (xP tl o)) (hg:∃g,hvv.ownBlock=some g)
 (J:LL->World->Prop) (Jx:World->Prop) (hJ:∀s X Y,J s X->KT W.1.size X Y->J s Y) (c8:∀X Y,Jx X->KT W.1.size X Y->Jx Y)
 (hY:∀pre x b X Y,J pre X->KT W.1.size X Y->qDt o.length (zJ tl o) pre x b X Y->YieldAt Fence.wide 0 Tryz.prog l #[b] Y λe Z=>(e=.returned (.bool true)/\J (pre++[x]) Z/\KpS (jx0 h r v) (λk=>k=l) Y Z)∨(e=.returned (.bool false)/\Jx Z/\KpS (jx0 h r v) (λk=>k=l) Y Z))
 (h0:J [] W):Cl 109 #[.agg #[vp,vb],hvv,.func (.yield l) #[] #[]] w4 λe Z=>(∃b,e=.returned (.bool b))/\(J (zJ tl o) Z∨Jx Z):=by
 obtain⟨f,g0,g1,c9,d0⟩:=qDu b8 hT K;have U:=bt a5 c7;have a3:Bl W w4:=bt a4 U;have d4:=a4.size;have d5:=a5.size;obtain⟨x,I⟩:=Ex (mkX h r v W.1.size tl o f g0 g1 hvv us);have hx:x.Ok:=by rw[I];exact⟨hh,hr,hv⟩
 have hm:JMx x (nxJ tl o) o.length:=by
  rw[I];exact qDs (λt ht=>kF (b0 t ht)) (λt ht e=>by
   unfold xC at K;rw[List.any_eq_false]at K;exact K t ht (decide_eq_true (by rw[e];rfl))) hc b1 b7
 have V:TyR x W:=by rw[I];exact a9
 have a6:x.r<W.1.size:=by rw[I];exact hr
 have a7:Dat x w4:=by
  refine⟨V.below a3 a6,λt ht=>?_,?_,λk hk hR=>?_⟩;rw[I]at ht ⊢;exact(d0 t ht).below U;rw[I];exact hQ.base (by show W.1.size<=w3.1.size;omega);have h1:=V.old a3 a6 hR;have M:hvv.ownBlock=some k:=by rw[I]at hk;exact hk
  have:=(hQ.own.lt k M).1;omega
 have a8:Brn x W.1.size w4 vp vb []:=by
  refine⟨qB hp U,?_⟩;have e1:x.bel []=cs.map Value.pointer:=by
   rw[c9,I];unfold JX.bel;rw[List.map_map];rfl
  rw[e1,I];exact qB hb U
 have d1:HVs x o.length 0 hvv:=by
  obtain⟨g,hg⟩:=hg;have hlen:(xP tl o).length=o.length:=by unfold xP;rw[lM]
  rcases hQ.own.2 with ⟨e,-⟩|⟨g',cap,cur,e,-,-,hn,-⟩;rw[e]at hg;cases hg
  rw[hlen]at e hn;refine⟨g',0,cap,by rw[I];show hvv.ownBlock=_;rw[e];rfl,e,λ_=>rfl,?_⟩;have:o.length<=cap:=Oo;omega
 have d2:l<x.n0:=by rw[I];exact hl
 have O:x.n0=W.1.size:=by rw[I];rfl
 have hG:LgG x (nxJ tl o) o.length l:=λw bB bH vp vb p h1 M h3 h4 h5 h6 h7 h8 h9=>UI x hx (nxJ tl o) o.length hm l w bB bH vp vb p h1 M h3 h4 h5 h6 h7 h8 h9;have hw:=Xz x hx (nxJ tl o) o.length hm (λp _ M y hy=>by rw[I]at M ⊢;exact qDr p M y hy) l d2 hG (zJ tl o) J Jx (by rw[O];exact hJ) (by rw[O];exact c8) (λps p vp X Y h1 M h3 h4 h5 d3=>by
  rw[O]at M;obtain⟨fn,tmps,assign,body,hy,hR⟩:=hY ps p vp X Y h1 M ⟨h3,h4,h5,d3⟩;refine⟨fn,tmps,assign,body,hy,hR.mono λe Z h=>?_⟩;rw[I];rcases h with ⟨h6,h7,h8⟩|⟨h6,h7,h8⟩;exact Or.inl ⟨h6,h7,kp0 h8⟩;exact Or.inr ⟨h6,h7,kp0 h8⟩) o.length [] [] W w4 vp vb hvv Ss (by unfold zJ;rw[K];exact List.prefix_rfl) (by rw[I];exact(X5 []).2 (Jl tl o)) (by rw[O];exact nR _) h0 (by rw[O];exact KT.of_below a3 (nR _)) a7 a8 b9 d1
 refine hw.mono λe Z h=>?_;have ep:zJ tl o=[]++zE (nxJ tl o) o.length []:=by unfold zJ;rw[K];rfl
 rw[ep];rcases h with ⟨h1,M,-⟩|⟨h1,M,-⟩;exact⟨⟨_,h1⟩,Or.inl M⟩;exact⟨⟨_,h1⟩,Or.inr M⟩
theorem X6(h r v:Nat)(w:World)(bT bO:Nat)(vt vo:Value)(tl:List TbV)(o:LI)(c7:w.1[bT]?=some (.cells #[vt] 32 (0,0)))(c8:w.1[bO]?=some (.cells #[vo] 24 (0,0)))(hT:ITs w vt tl)(hO:IS w vo o)(U:∀t∈tl,qU t=true)(hc:Qq tl o)(hl:tl.length<=1000)(V:o.length<=1000)(hh:h<w.1.size)(hr:r<w.1.size)(hv:v<w.1.size)(d5:TyR (jx0 h r v) w):
 Gives Tryz.prog 106 #[.pointer (some (az bT 0)),.pointer (some (az bO 0))] (λvp=>#[vp]) (λl=>KpS (jx0 h r v) λk=>k=l) (λl=>KpS (jx0 h r v) λk=>k=l) (qDt o.length (zJ tl o)) (zJ tl o) w:=by
 intro l J Jx W M d6 e7 hJ d7 hY h0;show Calls _ _ #[.func (.yield l) #[] #[],.pointer (some (az bT 0)),.pointer (some (az bO 0))] W _;have hs:=M.size;have HC:Hh (∀W',Bl W W'->W'.cell? (az bT 0)=some vt/\W'.cell? (az bO 0)=some vo/\Bl W W'):=ay λW' I=>by
  have hb:=(M).trans (I.mono hs);exact⟨by rw[cell_of_row _ _ _ _ _ _ ((hb.block _ (qW c7)).trans c7)];rfl,by rw[cell_of_row _ _ _ _ _ _ ((hb.block _ (qW c8)).trans c8)];rfl,I⟩
 have O:Hh (∀W',Bl W W'->Cl 107 #[vt,vo] W' λe w'=>∃(g c:Nat) (vb:Value) (cs:List (Option Addr)),e=.returned (.agg #[.slice (some (az g 0)) 0 c,vb])/\w'.ownsRow W.1.size 3 1 (.slice (some (az g 0)) 0 c) 0 []/\w'.ownsRow W.1.size 111 1 vb tl.length (cs.map Value.pointer)/\cs.length=tl.length/\(∀t,t<tl.length->TrO W.1.size w' ((tl.map λt=>(sdT o t).rows).getD t []) (cs.getD t none))/\Bl W w'):=ay λW' I=>by
  have hb:=(M).trans (I.mono hs);refine(JW W' vt vo tl o (hT.below hb) (hO.below hb) hl V U).mono ?_;rintro e w' ⟨g,c,vb,cs,rfl,h1,h2,h3,h4,h5⟩;refine⟨g,c,vb,cs,rfl,qF h1 I.size,qF h2 I.size,h3,λt ht=>?_,bt I h5⟩;rcases h4 t ht with h6|⟨h6,D,N,f,g0,g1,h7,h8,h9,e8⟩;exact Or.inl h6;exact Or.inr ⟨h6,D,N,f,g0,g1,h7,h8,h9.base I.size,e8⟩
 have KW:Hh (∀W',Bl W W'->Cl 110 #[vo,vt] W' λe w'=>∃v us,e=.returned v/\RQ w' W'.1.size v us (xP tl o)/\(∃g,v.ownBlock=some g)/\Bl W' w'):=ay λW' I=>by
  have hb:=(M).trans (I.mono hs);exact XD W' vt vo tl o (hT.below hb) (hO.below hb) hl V (λt ht=>by have:=(kF (U t ht)).vs;omega)
 have HE:Hh (∀e Z,((∃b,e=Ending.returned (.bool b))/\(J (zJ tl o) Z∨Jx Z))->J (zJ tl o) Z∨Jx Z):=ay λe Z h=>h.2;have HN:Hh (∀Z,Bl W Z->xC tl=true->J (zJ tl o) Z):=ay λZ hZ he=>by
  have:zJ tl o=[]:=by unfold zJ;rw[he];rfl
  rw[this];exact hJ _ _ _ h0 (KT.of_below hZ (nR _))
 have b9:TyR (jx0 h r v) W:=d5.below M hr;have HK:=ay (λ(w2 w3 w4:World) (vp vb hvv:Value) (us:List Value) (cs:List (Option Addr)) a1 a2 a3 a4 a5 a6 a7 a8 a9 a10 a11=>qDv (W:=W) (w2:=w2) (w3:=w3) (w4:=w4) (vp:=vp) (vb:=vb) (hvv:=hvv) (us:=us) (cs:=cs) (l:=l) Oo Oo Oo d6 b9 U hc hl V a1 a2 a3 a4 a5 a6 a7 a8 a9 a10 a11 J Jx hJ d7 hY h0);obtain⟨d8,ct,e9,-⟩:=hT;obtain⟨ao,co,f7,-⟩:=hO;subst e9 f7;clear c7 c8 U hc hJ d7 hY h0 d5 b9 M V hh hr hv d6 e7;obtain⟨n,hn⟩:=Ex tl.length;rw[<-hn]at HC O KW hl HK;have d9:=ay hn;clear hn;obtain⟨no,e0⟩:=Ex o.length;rw[<-e0]at HC O KW;clear e0;go_enter Tryz.func106,Tryz.ntmps106;obtain⟨cT,cO,-⟩:=HC.o W (bJ _ _);go_upto_region 1 with (first|(go_at_call 107;refine(O.o _ (by first|exact bJ _ _|exact(bJ _ _).drew|exact qD (bJ _ _) _)).mono ?_;rintro e w2 ⟨g2,c2,vb,cs,rfl,e1,b0,c9,d0,d1⟩;obtain⟨ab,cb,eb⟩:=xY b0;subst eb)|fail);obtain⟨K,b1⟩:=Ex (w2.alloc (.cells #[.slice (some (az g2 0)) 0 c2,.slice ab n cb] 143));have b7:Bl w2 K:=by rw[b1];exact qD (bJ _ _) _
 have d2:BrX K w2.1.size (.slice (some (az g2 0)) 0 c2) (.slice ab n cb):=by rw[b1];exact BrX.new w2 _ _
 rw[<-b1];clear b1;have k1:=d2.c1;have KC:=ay (Zh K W.1.size n (.slice ab n cb) cs (qB b0 b7) c9 Oo);have d3:Hh (kg cs=xC tl):=ay (qA5 (by rw[c9];exact d9.o) (by rw[<-d9.o];exact d0));rw[d3.o]at KC;have b8:Bl W K:=bt d1 b7;have d4:=ay d2;have e2:Hh (∀W',Bl K W'->W'.cell? (az w2.1.size 0)=some (.slice (some (az g2 0)) 0 c2)/\W'.cell? (az w2.1.size 1)=some (.slice ab n cb)/\W'.cell? (az bT 0)=some (.slice d8 n ct)/\W'.cell? (az bO 0)=some (.slice ao no co)/\Bl K W'):=ay λW' I=>⟨(d4.o.below I).c0,(d4.o.below I).c1,(HC.o W' (bt b8 I)).1,(HC.o W' (bt b8 I)).2.1,I⟩;clear d2 cT cO;cases hem:xC tl with
 |true=>
  rw[hem]at KC;have e3:Hh (J (zJ tl o) K∨Jx K):=ay (Or.inl (HN.o _ b8 hem));clear hem HN HK KW O HC HE d3;go_wp2_with (first|(go_at_call 108;refine KC.o.mono ?_;rintro e w' ⟨rfl,hw⟩;obtain rfl:K=w':=hw.symm)|fail);go_end0
  exact⟨⟨_,rfl⟩,e3.o⟩
 |false=>
  rw[hem]at KC;have f8:Hh (∀w3 w4 hvv us,Bl K w3->Bl w3 w4->RQ w4 w3.1.size hvv us (xP tl o)->(∃g,hvv.ownBlock=some g)->Cl 109 #[.agg #[.slice (some (az g2 0)) 0 c2,.slice ab n cb],hvv,.func (.yield l) #[] #[]] w4 λe Z=>(∃b,e=.returned (.bool b))/\(J (zJ tl o) Z∨Jx Z)):=ay λw3 w4 hvv us h1 h2 h3 h4=>HK.o w2 w3 w4 _ _ hvv us cs hem c9 d0 e1 b0 ⟨_,_,rfl⟩ d1 (bt b7 h1) h2 h3 h4;have f9:Hh (∀W',Bl K W'->Cl 110 #[.slice ao no co,.slice d8 n ct] W' λe w'=>∃v us,e=.returned v/\RQ w' W'.1.size v us (xP tl o)/\(∃g,v.ownBlock=some g)/\Bl W' w'):=ay λW' I=>KW.o W' (bt b8 I);clear hem HN HK KW O HC HE d3 d0 e1 b0 d1 b7 d4;go_upto_region 2 with (first|(go_at_call 108;refine KC.o.mono ?_;rintro e w' ⟨rfl,hw⟩;obtain rfl:K=w':=hw.symm)|fail);have s0:=e2.o K.drew (bJ _ _).drew;obtain⟨s1,s2,s3,s4,-⟩:=s0;go_region_law (first
   |(go_simp;go_at_call 110;refine(f9.o _ (bJ _ _).drew).mono ?_;rintro e w4 ⟨v4,g4,rfl,e5,g5,e6⟩;obtain⟨r1,r2,r3,r4,-⟩:=e2.o w4 (bt (bJ _ _).drew e6);obtain⟨a4,c4,e4⟩:=xY e5.own;subst e4)
   |(go_simp;go_at_call 109;refine(f8.o _ w4 _ g4 (bJ _ _).drew e6 e5 g5).mono ?_;rintro e w5 ⟨⟨b5,rfl⟩,h5⟩)
   |fail)
  all_goals go_end0
  all_goals exact⟨⟨_,rfl⟩,h5⟩
open Go.Shelf
def xQ(ps:LL):Nat:=(ps.filter λq=>decide (0<q.length)).length
def yb(no:Nat)(ps:LL):LL:=ps.filter λq=>decide (q.length=no)
theorem qCs(ps:LL)(p:LI):xQ (ps++[p])=xQ ps+(if 0<p.length then 1 else 0):=by
 unfold xQ;rw[List.filter_append,lA];by_cases h:0<p.length;rw[if_pos h];simp[h];rw[if_neg h];simp[h]
theorem qCt(no:Nat)(ps:LL)(p:LI):yb no (ps++[p])=yb no ps++(if p.length=no then [p] else []):=by
 unfold yb;rw[List.filter_append];by_cases h:p.length=no;rw[if_pos h];simp[h];rw[if_neg h];simp[h]
theorem qDz(no:Nat)(ps:LL):(yb no ps).length=qi ps no:=rfl
theorem qD0{qs:LL}(h:ps <+:qs)(i:Nat):qi ps i<=qi qs i:=by
 obtain⟨r,rfl⟩:=h;exact qFK ps r i
theorem ki(hi:i<=o.length):(zJ tl o).filter (λq=>decide (q.length=i))=lvJ tl o i:=by
 unfold zJ lvJ;cases xC tl
 have:=Jf (nxJ tl o) o.length [] i hi;rw[List.length_nil,Nat.zero_add]at this;exact this;rfl
theorem Je:∀q∈zJ tl o,q.length<=o.length:=λq hq=>by
 unfold zJ at hq;cases he:xC tl
 rw[he]at hq;have:=(Qm (nxJ tl o) o.length [] q hq).2;simpa using this;rw[he]at hq;cases hq
theorem qD1:xQ (zJ tl o)=viJ tl o o.length:=by
 unfold xQ;rw[X7 (zJ tl o) o.length Je];unfold viJ;congr 1;refine List.map_congr_left λj I=>?_;have K:=List.mem_range.1 I;unfold qi;rw[ki Oo]
theorem qFJ(h:∀q∈ps,q.length<=k)(I:∀i,qi ps i<=10000):xQ ps<=k*10000:=by
 unfold xQ;rw[X7 ps k h];have:∀m,((List.range m).map λj=>qi ps (j+1)).sum<=m*10000:=λm=>by
  induction m with
  |zero=>simp
  |succ m ih=>
   rw[List.range_succ,mA,List.sum_append];have:=I (m+1);simp only[List.map_cons,List.map_nil,List.sum_cons,List.sum_nil];omega
 exact this k
theorem qD2(I:okJ tl o=true)(h:∀i,qi (zJ tl o) i<=10000):qu tl o=yb o.length (zJ tl o)/\qw tl o=(xQ (zJ tl o):Int):=by
 have hs:smJ tl o o.length=true:=by
  unfold smJ;rw[aT];intro i hi;have K:=List.mem_range.1 hi;have:=h (i+1);unfold qi at this;rw[ki Oo]at this;exact decide_eq_true this
 obtain⟨M,O⟩:=xw I;rw[M,O,hs];refine⟨?_,by rw[qD1];rfl⟩;show lvJ tl o o.length=(zJ tl o).filter _;rw[ki (nR _)]
theorem qD3(I:okJ tl o=true)(hi:i<=o.length)(h:10000<qi (zJ tl o) i):qu tl o=[]/\qw tl o=-1:=by
 have hs:smJ tl o o.length=false:=by
  unfold qi at h;rw[ki hi]at h;cases i with
  |zero=>have:=Jk tl o;omega
  |succ i=>exact Vm (j:=i) Oo Oo
 obtain⟨K,M⟩:=xw I;rw[K,M,hs];exact⟨rfl,rfl⟩
def ZQ(c:Nat->Nat):Array Value:=#[ai (c 0),ai (c 1),ai (c 2),ai (c 3),ai (c 4),ai (c 5),ai (c 6)]
def HX(W:World)(k:Nat)(c:Nat->Nat):Prop:=W.1[k]?=some (.cells (ZQ c) 106 (0,0))
theorem qCu(c:Nat->Nat)(h:v<7):(ZQ c)[v]?=some (ai (c v)):=by
 obtain rfl|rfl|rfl|rfl|rfl|rfl|rfl:v=0∨v=1∨v=2∨v=3∨v=4∨v=5∨v=6:=Oo;all_goals rfl
section
variable {W W':World} {k:Nat} {c:Nat->Nat}
theorem HX.cell(h:HX W k c)(hv:v<7):W.cell? (az k v)=some (ai (c v)):=by rw[cell_of_row _ _ _ _ _ _ h];exact qCu c hv
theorem HX.free(h:HX W k c)(j:Nat):W.frozen? (az k j)=false:=by unfold World.frozen?;rw[show W.1[k]?=_ from h];simp
theorem HX.set(h:HX W k c)(hv:v<7)(n:Nat):HX (W.setCell (az k v) (ai n)) k (λi=>if i=v then n else c i):=by
 unfold HX;rw[bI _ _ _ _ _ _ h];obtain rfl|rfl|rfl|rfl|rfl|rfl|rfl:v=0∨v=1∨v=2∨v=3∨v=4∨v=5∨v=6:=Oo;all_goals simp[ZQ]
theorem HX.congr{c':Nat->Nat}(h:HX W k c)(I:∀i,i<7->c' i=c i):HX W k c':=by
 have:ZQ c'=ZQ c:=by unfold ZQ;rw[I 0 Oo,I 1 Oo,I 2 Oo,I 3 Oo,I 4 Oo,I 5 Oo,I 6 Oo]
 unfold HX;rw[this];exact h
end
theorem RQ.kt{v:Value}{ls:LL}(h:RQ X B v us ls)(M:KT C X Y):RQ Y B v us ls:=
 ⟨qC h.own λg I=>by
  obtain⟨cur,K⟩:=qN h.own I;exact M.cel g cur _ _ K Dd Dd,h.len,λi hi=>qC (h.each i hi) λg I=>by
  obtain⟨cur,K⟩:=qN (h.each i hi) I;exact M.cel g cur _ _ K Dd Dd,h.ap⟩
theorem TyR.of{n:Nat}(hb:Boxed W r 23 vr)(ho:W.ownsRow B 24 1 vr n us):TyR (jx0 h r v) W:=λk K=>by
 obtain⟨o,m,c,M⟩:=K;have I:W.cell? (az r 0)=some (.slice (some (az k o)) m c):=M;rw[hb.cell]at I;cases I
 obtain⟨cur,O⟩:=qN ho (g:=k) rfl;exact⟨cur,_,O⟩
theorem RBk.iff(hb:Boxed W r 23 vr)(K:RBk (jx0 h r v) W k):vr.ownBlock=some k:=by
 obtain⟨o,m,c,M⟩:=K;have I:W.cell? (az r 0)=some (.slice (some (az k o)) m c):=M;rw[hb.cell]at I;cases I
 rfl
section
variable {h r v:Nat} {W W' w3:World} {vr:Value} {us:List Value} {B n g c:Nat}
theorem KpS.box{j:Nat}{y:Value}(O:k=h∨k=v)(U:r≠k)(I:TyR (jx0 h r v) W->TyR (jx0 h r v) (W.setCell (az k j) y)):KpS (jx0 h r v) (λ_=>False) W (W.setCell (az k j) y):=by
 have V:(W.setCell (az k j) y).1[(jx0 h r v).r]?=W.1[(jx0 h r v).r]?:=bD _ _ _ _ U;refine⟨rfl,rfl,rfl,by simp[World.setCell],λi o hi _ K=>(bD _ _ _ _ λe=>?_).trans hi,λi hi=>Or.inl ((RBk.eq V i).1 hi),I⟩;have M:i=k:=e;rcases O with rfl|rfl;exact K (Or.inl M);exact K (Or.inr (Or.inr (Or.inl M)))
theorem KpS.rows{o:Obj}{m:Nat}{ys:List Value}(I:(W.alloc o).grownBy w3 vr.ownBlock)(K:w3.ownsRow B 24 1 (.slice (some (az g 0)) m c) m ys)(U:vr.ownBlock=some g∨W.1.size<=g)(V:g≠r)(M:Boxed (w3.setCell (az r 0) (.slice (some (az g 0)) m c)) r 23 (.slice (some (az g 0)) m c))(O:∀q,vr.ownBlock=some q->RBk (jx0 h r v) W q):
 KpS (jx0 h r v) (λ_=>False) W (w3.setCell (az r 0) (.slice (some (az g 0)) m c)):=by
 have hs:=I.size;rw[World.size_alloc]at hs;refine⟨I.os,I.tape,I.output,?_,λi ob hi _ hm=>?_,λi hi=>?_,λ_=>?_⟩;show W.1.size<=(w3.setCell _ _).1.size;simp[World.setCell];omega;have a3:i≠r:=λe=>hm (Or.inr (Or.inl e));have a4:=qW hi;refine(bD _ _ _ _ (by exact a3)).trans ((I.block i (by rw[World.size_alloc];omega) λe=>hm (Or.inr (Or.inr (Or.inr (O i e.symm))))).trans ((Below.heap_alloc _ _ _ a4).trans hi))
 ·have h1:=RBk.iff (h:=h) (v:=v) M hi;have h2:g=i:=by simpa[Value.ownBlock]using h1
  subst h2;rcases U with h3|h3;exact Or.inl (O _ h3);exact Or.inr h3
 refine TyR.of M (qC K λq hq=>bD _ _ _ _ ?_);have h2:g=q:=by simpa[Value.ownBlock]using hq
 subst h2;exact V
theorem KpS.keepsF(I:KpS (jx0 h r v) (λ_=>False) W W')(O:TyR (jx0 h r v) W)(V:h<C)(hr:r<C)(hv:v<C):KeepsFrom C W W':=by
 refine⟨I.size,λk o hC K ho=>I.same k o K (Or.inr id) λU=>?_⟩;rcases U with e|e|e|e;have:k=h:=e;omega;have:k=r:=e;omega;have:k=v:=e;omega;obtain⟨cur,z,M⟩:=O k e;rw[K]at M;cases M
 cases ho
end
theorem vM{F:Fence}{N:Nat}{P:Program}(w:World){ops:Array Oper}{rest:List Oper}{o:Oper}{a:Act}{Q:Exit->Act->World->Prop}(a4:o.guard=none)(s x:Operand)(t:TypeId)
 (ho:o.op=.call { callee:=.builtin .append,args:=#[s,x],argTypes:=#[t,t] })
 (base:Nat) (e:TypeId) (i:TypeInfo) (z:Value) (size bytes:Nat) (ht:P.underlying t=some (.slice e)) (hi:P.info? e=some i) (hz:i.zero=some z)
 (M:i.size=size) (a5:i.bytes=bytes) (a6:z.cells.size=size) (a7:0<size)
 (v:Value) (n:Nat) (xs:List Value) (hs:a.eval s=v) (V:w.ownsRow base e size v n xs)
 (ad:Addr) (m c:Nat) (news:List Value) (hx:a.eval x=.slice (some ad) m c) (hl:news.length=m*size) (O:∀j u,news[j]?=some u->w.cell? (ad.add j)=some u) (h1:∀u∈news,u.oneCell'=true)
 (hm:0<m) (a8:n+m<=maxLen) (I:(n+m)*bytes<=140737488355328) (U:base<=w.1.size)
 (h:∀g cap w',w'.ownsRow base e size (.slice (some (az g 0)) (n+m) cap) (n+m) (xs++news)->w.grownBy w' v.ownBlock->(v.ownBlock=some g∨g=w.1.size)->wpListIn F N P ops Q rest (a.put o.dst (.slice (some (az g 0)) (n+m) cap)) w'):wpListIn F N P ops Q (o::rest) a w:=by
 refine wpListIn_plain a4 λK a9=>?_;obtain⟨g,cap,w',a3,r1,r2,r3,-⟩:=run_append_lies (P:=P) w t o.type base e i z size bytes ht hi hz M a5 a6 a7 v n xs V ad m c news hl O h1 hm a8 I U w.1.size rfl;unfold Oper.wpIn;refine⟨?_,?_⟩;simp[Oper.about,ho,resolve,Target.leads,Sem.run_pure];rw[Oper.semAt_plain F _ _ (by rw[ho];intro c b0;cases b0)];simp[execOp,ho,resolve,invoke,builtin,hs,hx,a3,Result.andThen];exact a9 _ _ (h g cap w' r1 r2 r3)
theorem xu{K:Nat}{cs I:Array Value}{t':TypeId}{z O:Nat×Nat}(h:W.1[k]?=some (.cells cs t z))(M:W.1[K]?=some (.cells I t' O))(U:t≠t'):k≠K:=λe=>by
 subst e;rw[h]at M;cases M
 exact U rfl
structure JS(B bo r v h:Nat)(vo:Value)(c:Nat->Nat)(vn:Int)(ls:LL)(vr:Value)(us:List Value)(w W:World):Prop where
 hb:HX W h c
 rb:Boxed W r 23 vr
 rq:RQ W (bo+1) vr us ls
 vb:Boxed W v 3 (ai vn)
 ob:Boxed W bo 24 vo
 bel:Below B w W
 sh:∃g k,vr=.slice (some (az g 0)) ls.length k
 ap:∀i,i<ls.length->∀g,(us.getD i undef).ownBlock=some g->g≠v
 low:B<=bo/\B<=r/\B<=v/\B<=h
section
variable {B bo r v h:Nat} {vo vr:Value} {c:Nat->Nat} {vn:Int} {ls:LL} {us:List Value} {w W Y:World}
theorem JS.kt(j:JS B bo r v h vo c vn ls vr us w W)(I:KT C W Y)(K:B<=C):JS B bo r v h vo c vn ls vr us w Y:=
 ⟨(I.cel _ _ _ _ j.hb Dd Dd).trans j.hb,(I.cel _ _ _ _ j.rb Dd Dd).trans j.rb,j.rq.kt I,(I.cel _ _ _ _ j.vb Dd Dd).trans j.vb,(I.cel _ _ _ _ j.ob Dd Dd).trans j.ob,j.bel.trans (I.bel.mono K),j.sh,j.ap,j.low⟩
theorem JS.ty(j:JS B bo r v h vo c vn ls vr us w W):TyR (jx0 h r v) W:=TyR.of j.rb j.rq.own
theorem JS.own_ne(j:JS B bo r v h vo c vn ls vr us w W){cs:Array Value}(I:W.1[k]?=some (.cells cs t (0,0)))(K:24≠t):vr.ownBlock≠some k:=λe=>Go.Proofs.YtcnfapnfmnolbaaGreat.own_ne j.rq.own ⟨_,I⟩ K e.symm
theorem JS.held(j:JS B bo r v h vo c vn ls vr us w W)(hi:i<7)(n:Nat):JS B bo r v h vo (λq=>if q=i then n else c q) vn ls vr us w (W.setCell (az h i) (ai n))/\KpS (jx0 h r v) (λ_=>False) W (W.setCell (az h i) (ai n)):=by
 have O:r≠h:=xu j.rb j.hb Dd;have U:v≠h:=xu j.vb j.hb Dd;have V:bo≠h:=xu j.ob j.hb Dd;have k:∀q,q≠h->(W.setCell (az h i) (ai n)).1[q]?=W.1[q]?:=λq hq=>bD _ _ _ _ hq;have I:Boxed (W.setCell (az h i) (ai n)) r 23 vr:=(k _ O).trans j.rb;have K:RQ (W.setCell (az h i) (ai n)) (bo+1) vr us ls:=⟨qC j.rq.own λg M=>k g λe=>j.own_ne j.hb Dd (by rw[M,e]),j.rq.len,λq hq=>qC (j.rq.each q hq) λg M=>k g λe=>Go.Proofs.YtcnfapnfmnolbaaGreat.own_ne (j.rq.each q hq) ⟨_,j.hb⟩ Dd (by rw[M,e]),j.rq.ap⟩;refine⟨⟨j.hb.set hi n,I,K,(k _ U).trans j.vb,(k _ V).trans j.ob,j.bel.setCell (by exact j.low.2.2.2) _,j.sh,j.ap,j.low⟩,KpS.box (Or.inl rfl) O λ_=>TyR.of I K.own⟩
theorem JS.vis(j:JS B bo r v h vo c vn ls vr us w W)(n:Int):JS B bo r v h vo c n ls vr us w (W.setCell (az v 0) (ai n))/\KpS (jx0 h r v) (λ_=>False) W (W.setCell (az v 0) (ai n)):=by
 have O:r≠v:=xu j.rb j.vb Dd;have U:h≠v:=xu j.hb j.vb Dd;have V:bo≠v:=xu j.ob j.vb Dd;have k:∀q,q≠v->(W.setCell (az v 0) (ai n)).1[q]?=W.1[q]?:=λq hq=>bD _ _ _ _ hq;have I:Boxed (W.setCell (az v 0) (ai n)) r 23 vr:=(k _ O).trans j.rb;have K:RQ (W.setCell (az v 0) (ai n)) (bo+1) vr us ls:=⟨qC j.rq.own λg M=>k g λe=>j.own_ne j.vb Dd (by rw[M,e]),j.rq.len,λq hq=>qC (j.rq.each q hq) λg M=>k g (j.ap q hq g M),j.rq.ap⟩;refine⟨⟨(k _ U).trans j.hb,I,K,j.vb.set _,(k _ V).trans j.ob,j.bel.setCell (by exact j.low.2.2.1) _,j.sh,j.ap,j.low⟩,KpS.box (Or.inr rfl) O λ_=>TyR.of I K.own⟩
theorem JS.push(j:JS B bo r v h vo c vn ls vr us w W){o:Obj}{g cp:Nat}{u:Value}{l:LI}(hu:W.ownsRow (bo+1) 3 1 u l.length (l.map ai))(hn:∀i,i<ls.length->∀g,(us.getD i undef).ownBlock=some g->u.ownBlock≠some g)(hv:u.ownBlock≠some v)
 (K:w3.ownsRow (bo+1) 24 1 (.slice (some (az g 0)) (ls.length+1) cp) (ls.length+1) (us++[u])) (V:(W.alloc o).grownBy w3 vr.ownBlock) (a3:vr.ownBlock=some g∨g=(W.alloc o).1.size):
 Boxed w3 r 23 vr/\JS B bo r v h vo c vn (ls++[l]) (.slice (some (az g 0)) (ls.length+1) cp) (us++[u]) w (w3.setCell (az r 0) (.slice (some (az g 0)) (ls.length+1) cp))/\KpS (jx0 h r v) (λ_=>False) W (w3.setCell (az r 0) (.slice (some (az g 0)) (ls.length+1) cp)):=by
 have hq:=j.rq.step hu hn K V;have kk:∀q,q<W.1.size->vr.ownBlock≠some q->w3.1[q]?=W.1[q]?:=λq a4 I=>zR V a4 λe=>I e.symm;have r3:Boxed w3 r 23 vr:=(kk _ j.rb.lt (j.own_ne j.rb Dd)).trans j.rb;have e1:h≠r:=xu j.hb j.rb Dd;have e2:v≠r:=xu j.vb j.rb Dd;have e3:bo≠r:=xu j.ob j.rb Dd;have k:∀q,q≠r->(w3.setCell (az r 0) (.slice (some (az g 0)) (ls.length+1) cp)).1[q]?=w3.1[q]?:=λq hq=>bD _ _ _ _ hq;have a5:vr.ownBlock≠some bo:=λe=>by have:=(j.rq.own.lt bo e).1;omega
 have M:g≠r:=λe=>Go.Proofs.YtcnfapnfmnolbaaGreat.own_ne K ⟨_,r3⟩ Dd (by rw[e];rfl);have O:=r3.set (.slice (some (az g 0)) (ls.length+1) cp);have a6:∀q,vr.ownBlock=some q->RBk (jx0 h r v) W q:=λq hq=>by
  obtain⟨g0,k0,e⟩:=j.sh;rw[e]at hq;have:g0=q:=by simpa[Value.ownBlock]using hq
  subst this;exact⟨0,ls.length,k0,by show W.cell? (az r 0)=_;rw[j.rb.cell,e]⟩
 refine⟨r3,⟨?_,O,⟨qC hq.own λq I=>k q λe=>?_,hq.len,λi hi=>qC (hq.each i hi) λq I=>k q λe=>Go.Proofs.YtcnfapnfmnolbaaGreat.own_ne (hq.each i hi) ⟨_,r3⟩ Dd (by rw[I,e]),hq.ap⟩,?_,?_,?_,⟨g,cp,by rw[lA];rfl⟩,λi hi q I=>?_,j.low⟩,?_⟩;exact(k _ e1).trans ((kk _ (qW j.hb) (j.own_ne j.hb Dd)).trans j.hb)
 ·have:g=q:=by simpa[Value.ownBlock]using I
  exact M (this.trans e)
 exact(k _ e2).trans ((kk _ j.vb.lt (j.own_ne j.vb Dd)).trans j.vb);exact(k _ e3).trans ((kk _ j.ob.lt a5).trans j.ob)
 ·have a7:B<=W.1.size:=by have:=j.low.1;have:=j.ob.lt;omega
  refine((j.bel.alloc a7 o).grown V (by rw[World.size_alloc];omega) λq I=>?_).setCell (by exact j.low.2.1) _;have h1:=(j.rq.own.lt q I).1;have h2:=j.low.1;omega
 ·rw[lA,lS]at hi;by_cases U:i<ls.length;rw[gD,aL (by rw[j.rq.len];exact U),<-gD]at I;exact j.ap i U q I;have a8:i=us.length:=by rw[j.rq.len];omega
  rw[a8,gD,bQ (nR _),Nat.sub_self]at I;intro e;exact hv (by rw[<-e];exact I)
 refine KpS.rows V K ?_ M O a6;rcases a3 with h1|h1;exact Or.inl h1;exact Or.inr (by rw[h1,World.size_alloc];omega)
theorem JS.reset(j:JS B bo r v h vo c vn ls vr us w W):JS B bo r v h vo c vn [] (.slice (some (az W.1.size 0)) 0 0) [] w ((W.alloc (.cells #[] 24)).setCell (az r 0) (.slice (some (az W.1.size 0)) 0 0))/\KpS (jx0 h r v) (λ_=>False) W ((W.alloc (.cells #[] 24)).setCell (az r 0) (.slice (some (az W.1.size 0)) 0 0)):=by
 have I:(W.alloc (.cells #[] 24)).ownsRow (bo+1) 24 1 (.slice (some (az W.1.size 0)) 0 0) 0 []:=oM W (e:=24) (size:=1) (base:=bo+1) #[] 0 (by have:=j.ob.lt;omega) Dd rfl;have r3:Boxed (W.alloc (.cells #[] 24)) r 23 vr:=j.rb.alloc _;have e1:h≠r:=xu j.hb j.rb Dd;have e2:v≠r:=xu j.vb j.rb Dd;have e3:bo≠r:=xu j.ob j.rb Dd;have k:∀q,q≠r->((W.alloc (.cells #[] 24)).setCell (az r 0) (.slice (some (az W.1.size 0)) 0 0)).1[q]?=(W.alloc (.cells #[] 24)).1[q]?:=λq hq=>bD _ _ _ _ hq;have O:B<=W.1.size:=by have:=j.low.1;have:=j.ob.lt;omega
 have K:W.1.size≠r:=by have:=j.rb.lt;omega
 have M:=r3.set (.slice (some (az W.1.size 0)) 0 0);have U:∀q,vr.ownBlock=some q->RBk (jx0 h r v) W q:=λq hq=>by
  obtain⟨g0,k0,e⟩:=j.sh;rw[e]at hq;have:g0=q:=by simpa[Value.ownBlock]using hq
  subst this;exact⟨0,ls.length,k0,by show W.cell? (az r 0)=_;rw[j.rb.cell,e]⟩
 have V:∀q o,W.1[q]?=some o->(W.alloc (.cells #[] 24)).1[q]?=some o:=λq o hq=>(Below.heap_alloc _ _ _ (qW hq)).trans hq;refine⟨⟨(k _ e1).trans (V _ _ j.hb),M,⟨qC I λq hq=>k q λe=>?_,rfl,λi hi=>by simp at hi,λi q _ hq=>by simp at hq⟩,(k _ e2).trans (V _ _ j.vb),(k _ e3).trans (V _ _ j.ob),(j.bel.alloc O _).setCell (by exact j.low.2.1) _,⟨_,_,rfl⟩,λi hi=>by simp at hi,j.low⟩,KpS.rows (World.grownBy.refl _ vr.ownBlock) I (Or.inr (nR _)) K M U⟩;have:W.1.size=q:=by simpa[Value.ownBlock]using hq
 exact K (this.trans e)
end
end Go.Proofs.YtcnfapnfmnolbaaGreat
