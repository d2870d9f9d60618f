import Derived.Test.YtkaipapdlnojiaaGreatWq46
import Derived.Test.YtkaipapdlnojiaaGreatWq47
set_option maxHeartbeats 40000000
set_option maxRecDepth 1000000
namespace Go.Proofs.YtkaipapdlnojiaaGreat
open Go.RowKit Meet
variable {ps:List (List Int)}{o:List Int}{tl:List TbV}{us:List Value}{B C h i k r v:Nat}{t:TypeId}{vr:Value}{W X Y w3:World}
theorem TyR.below{x:JX}(h:TyR x X)(hb:Bl X Y)(hr:x.r < X.heap.size):TyR x Y:=λk K=>by
 obtain⟨cur,z,I⟩:=h k ((RBk.eq (hb.block _ hr) k).1 K);exact⟨cur,z,(hb.block k (qP I)).trans I⟩
theorem TyR.old{x:JX}(h:TyR x X)(hb:Bl X Y)(hr:x.r < X.heap.size)(I:RBk x Y k):k < X.heap.size:=by
 obtain⟨cur,z,K⟩:=h k ((RBk.eq (hb.block _ hr) k).1 I);exact qP K
theorem qC8{w2 w4:World}{vp vb hvv:Value}{cs:List (Option Addr)}{l:Nat}(hh:h < W.heap.size)(hr:r < W.heap.size)(hv:v < W.heap.size)(hl:l < W.heap.size)(a8:TyR (jx0 h r v) W)
 (a9:∀t∈tl,zK t=true) (hc:QL tl o) (b0:tl.length<=1000) (b7:o.length<=1000) (K:xB tl=false)
 (b9:cs.length=tl.length) (hT:∀t,t < tl.length->TrO W.heap.size w2 ((tl.map λt=>(sdT o t).rows).getD t []) (cs.getD t none)) (hp:w2.ownsRow W.heap.size 3 1 vp 0 []) (hb:w2.ownsRow W.heap.size 123 1 vb tl.length (cs.map Value.pointer)) (c7:∃g c,vp=.slice (some ⟨g,0,none⟩) 0 c)
 (a3:Bl W w2) (a4:Bl w2 w3) (c8:Bl w3 w4) (hQ:RQ w4 w3.heap.size hvv us (z7 tl o)) (hg:∃g,hvv.ownBlock=some g)
 (J:List (List Int)->World->Prop) (Jx:World->Prop) (hJ:∀s X Y,J s X->KT W.heap.size X Y->J s Y) (c9:∀X Y,Jx X->KT W.heap.size X Y->Jx Y)
 (hY:∀pre x b X Y,J pre X->KT W.heap.size X Y->qC6 o.length (zH tl o) pre x b X Y->YieldAt Fence.wide 0 Tryz.prog l #[b] Y λe Z=>(e=.returned (.bool true)/\J (pre++[x]) Z/\KpS (jx0 h r v) (λk=>k=l) Y Z)∨(e=.returned (.bool false)/\Jx Z/\KpS (jx0 h r v) (λk=>k=l) Y Z))
 (h0:J [] W):Cl 67 #[.agg #[vp,vb],hvv,.func (.yield l) #[] #[]] w4 λe Z=>(∃b,e=.returned (.bool b))/\(J (zH tl o) Z∨Jx Z):=by
 obtain⟨f,g0,g1,d0,d6⟩:=qC7 b9 hT K;have U:=bt a4 c8;have a2:Bl W w4:=bt a3 U;have e0:=a3.size;have e2:=a4.size;obtain⟨x,I⟩:∃x,x=mkX h r v W.heap.size tl o f g0 g1 hvv us:=⟨_,rfl⟩;have hx:x.Ok:=by rw[I];exact⟨hh,hr,hv⟩
 have hm:JMx x (nxJ tl o) o.length:=by
  rw[I]
  exact qC5 (λt ht=>jm (a9 t ht)) (λt ht e=>by
   unfold xB at K;rw[List.any_eq_false]at K;exact K t ht (decide_eq_true (by rw[e];rfl))) hc b0 b7
 have V:TyR x W:=by rw[I];exact a8
 have a5:x.r < W.heap.size:=by rw[I];exact hr
 have a6:Dat x w4:=by
  refine⟨V.below a2 a5,λt ht=>?_,?_,λk hk hR=>?_⟩
  ·rw[I]at ht ⊢;exact(d6 t ht).below U
  ·rw[I];exact hQ.base (by show W.heap.size<=w3.heap.size;omega)
  ·have h1:=V.old a2 a5 hR;have M:hvv.ownBlock=some k:=by rw[I]at hk;exact hk
   have:=(hQ.own.lt k M).1;omega
 have a7:Brn x W.heap.size w4 vp vb []:=by
  refine⟨qB hp U,?_⟩
  have e1:x.bel []=cs.map Value.pointer:=by
   rw[d0,I];unfold JX.bel;rw[List.map_map];rfl
  rw[e1,I];exact qB hb U
 have d7:HVs x o.length 0 hvv:=by
  obtain⟨g,hg⟩:=hg;have hlen:(z7 tl o).length=o.length:=by unfold z7;rw[lM]
  rcases hQ.own.2 with ⟨e,-⟩|⟨g',cap,cur,e,-,-,hn,-⟩
  ·rw[e]at hg;cases hg
  ·rw[hlen]at e hn;refine⟨g',0,cap,by rw[I];show hvv.ownBlock=_;rw[e];rfl,e,λ_=>rfl,?_⟩;have:o.length<=cap:=Oo;omega
 have d8:l < x.n0:=by rw[I];exact hl
 have O:x.n0=W.heap.size:=by rw[I];rfl
 have hG:LgG x (nxJ tl o) o.length l:=λw bB bH vp vb p h1 M h3 h4 h5 h6 h7 h8 h9=>VP x hx (nxJ tl o) o.length hm l w bB bH vp vb p h1 M h3 h4 h5 h6 h7 h8 h9
 have hw:=Z6 x hx (nxJ tl o) o.length hm (λp _ M y hy=>by rw[I]at M ⊢;exact qC4 p M y hy) l d8 hG (zH tl o) J Jx (by rw[O];exact hJ) (by rw[O];exact c9) (λps p vp X Y h1 M h3 h4 h5 d9=>by
  rw[O]at M;obtain⟨fn,tmps,assign,body,hy,hR⟩:=hY ps p vp X Y h1 M ⟨h3,h4,h5,d9⟩;refine⟨fn,tmps,assign,body,hy,hR.mono λe Z h=>?_⟩;rw[I];rcases h with ⟨h6,h7,h8⟩|⟨h6,h7,h8⟩
  ·exact Or.inl ⟨h6,h7,kp0 h8⟩
  ·exact Or.inr ⟨h6,h7,kp0 h8⟩) o.length [] [] W w4 vp vb hvv Ss (by unfold zH;rw[K];exact List.prefix_rfl) (by rw[I];exact(Z7 []).2 (Us tl o)) (by rw[O];exact bK _) h0 (by rw[O];exact KT.of_below a2 (bK _)) a6 a7 c7 d7
 refine hw.mono λe Z h=>?_;have ep:zH tl o=[]++zE (nxJ tl o) o.length []:=by unfold zH;rw[K];rfl
 rw[ep];rcases h with ⟨h1,M,-⟩|⟨h1,M,-⟩
 ·exact⟨⟨_,h1⟩,Or.inl M⟩
 ·exact⟨⟨_,h1⟩,Or.inr M⟩
theorem Z8(h r v:Nat)(w:World)(bT bO:Nat)(vt vo:Value)(tl:List TbV)(o:List Int)(c9:w.heap[bT]?=some (.cells #[vt] 23 (0,0)))(d0:w.heap[bO]?=some (.cells #[vo] 25 (0,0)))(hT:ITs w vt tl)(hO:IS w vo o)(U:∀t∈tl,zK t=true)(hc:QL tl o)(hl:tl.length<=1000)(V:o.length<=1000)(hh:h < w.heap.size)(hr:r < w.heap.size)(hv:v < w.heap.size)(e2:TyR (jx0 h r v) w):
 Gives Tryz.prog 64 #[.pointer (some ⟨bT,0,none⟩),.pointer (some ⟨bO,0,none⟩)] (λvp=>#[vp]) (λl=>KpS (jx0 h r v) λk=>k=l) (λl=>KpS (jx0 h r v) λk=>k=l) (qC6 o.length (zH tl o)) (zH tl o) w:=by
 intro l J Jx W M e3 f9 hJ e5 hY h0;show Calls _ _ #[.func (.yield l) #[] #[],.pointer (some ⟨bT,0,none⟩),.pointer (some ⟨bO,0,none⟩)] W _;have hs:=M.size
 have HC:Hid (∀W',Bl W W'->W'.cell? ⟨bT,0,none⟩=some vt/\W'.cell? ⟨bO,0,none⟩=some vo/\Bl W W'):=hid λW' I=>by
  have hb:=(M).trans (I.mono hs);exact⟨by rw[cell_of_row _ _ _ _ _ _ ((hb.block _ (qP c9)).trans c9)];rfl,by rw[cell_of_row _ _ _ _ _ _ ((hb.block _ (qP d0)).trans d0)];rfl,I⟩
 have O:Hid (∀W',Bl W W'->Cl 65 #[vt,vo] W' λe w'=>∃(g c:Nat) (vb:Value) (cs:List (Option Addr)),e=.returned (.agg #[.slice (some ⟨g,0,none⟩) 0 c,vb])/\w'.ownsRow W.heap.size 3 1 (.slice (some ⟨g,0,none⟩) 0 c) 0 []/\w'.ownsRow W.heap.size 123 1 vb tl.length (cs.map Value.pointer)/\cs.length=tl.length/\(∀t,t < tl.length->TrO W.heap.size w' ((tl.map λt=>(sdT o t).rows).getD t []) (cs.getD t none))/\Bl W w'):=hid λW' I=>by
  have hb:=(M).trans (I.mono hs);refine(Ub W' vt vo tl o (hT.below hb) (hO.below hb) hl V U).mono ?_;rintro e w' ⟨g,c,vb,cs,rfl,h1,h2,h3,h4,h5⟩;refine⟨g,c,vb,cs,rfl,qF h1 I.size,qF h2 I.size,h3,λt ht=>?_,bt I h5⟩;rcases h4 t ht with h6|⟨h6,D,N,f,g0,g1,h7,h8,h9,g4⟩
  ·exact Or.inl h6
  ·exact Or.inr ⟨h6,D,N,f,g0,g1,h7,h8,h9.base I.size,g4⟩
 have KW:Hid (∀W',Bl W W'->Cl 68 #[vo,vt] W' λe w'=>∃v us,e=.returned v/\RQ w' W'.heap.size v us (z7 tl o)/\(∃g,v.ownBlock=some g)/\Bl W' w'):=hid λW' I=>by
  have hb:=(M).trans (I.mono hs);exact ZJ W' vt vo tl o (hT.below hb) (hO.below hb) hl V (λt ht=>by have:=(jm (U t ht)).vs;omega)
 have HE:Hid (∀e Z,((∃b,e=Ending.returned (.bool b))/\(J (zH tl o) Z∨Jx Z))->J (zH tl o) Z∨Jx Z):=hid λe Z h=>h.2
 have HN:Hid (∀Z,Bl W Z->xB tl=true->J (zH tl o) Z):=hid λZ hZ he=>by
  have:zH tl o=[]:=by unfold zH;rw[he];rfl
  rw[this];exact hJ _ _ _ h0 (KT.of_below hZ (bK _))
 have c8:TyR (jx0 h r v) W:=e2.below M hr;have HK:=hid (λ(w2 w3 w4:World) (vp vb hvv:Value) (us:List Value) (cs:List (Option Addr)) a1 a2 a3 a4 a5 a6 a7 a8 a9 a10 a11=>qC8 (W:=W) (w2:=w2) (w3:=w3) (w4:=w4) (vp:=vp) (vb:=vb) (hvv:=hvv) (us:=us) (cs:=cs) (l:=l) Oo Oo Oo e3 c8 U hc hl V a1 a2 a3 a4 a5 a6 a7 a8 a9 a10 a11 J Jx hJ e5 hY h0);obtain⟨at',ct,g5,-⟩:=hT;obtain⟨ao,co,g6,-⟩:=hO;subst g5 g6;clear c9 d0 U hc hJ e5 hY h0 e2 c8 M V hh hr hv e3 f9;obtain⟨n,hn⟩:∃n,n=tl.length:=⟨_,rfl⟩;rw[<-hn]at HC O KW hl HK;have e6:=hid hn;clear hn;obtain⟨no,e7⟩:∃no,no=o.length:=⟨_,rfl⟩;rw[<-e7]at HC O KW;clear e7;go_enter Tryz.func64,Tryz.ntmps64
 obtain⟨cT,cO,-⟩:=HC.out W (bM _ _);go_upto_region 1 with (first|(go_at_call 65;refine(O.out _ (by first|exact bM _ _|exact(bM _ _).drew|exact qE (bM _ _) _)).mono ?_;rintro e w2 ⟨g2,c2,vb,cs,rfl,e8,b0,d6,d7,d8⟩;obtain⟨ab,cb,eb⟩:=xJ b0;subst eb)|fail)
 obtain⟨K,b7⟩:∃K,K=w2.alloc (.cells #[.slice (some ⟨g2,0,none⟩) 0 c2,.slice ab n cb] 120):=⟨_,rfl⟩;have b9:Bl w2 K:=by rw[b7];exact qE (bM _ _) _
 have d9:BrX K w2.heap.size (.slice (some ⟨g2,0,none⟩) 0 c2) (.slice ab n cb):=by rw[b7];exact BrX.new w2 _ _
 rw[<-b7];clear b7;have k1:=d9.c1;have KC:=hid (Qp K W.heap.size n (.slice ab n cb) cs (qB b0 b9) d6 Oo);have e0:Hid (kJ cs=xB tl):=hid (K9 (by rw[d6];exact e6.out) (by rw[<-e6.out];exact d7));rw[e0.out]at KC;have c7:Bl W K:=bt d8 b9;have e1:=hid d9;have e9:Hid (∀W',Bl K W'->W'.cell? ⟨w2.heap.size,0,none⟩=some (.slice (some ⟨g2,0,none⟩) 0 c2)/\W'.cell? ⟨w2.heap.size,1,none⟩=some (.slice ab n cb)/\W'.cell? ⟨bT,0,none⟩=some (.slice at' n ct)/\W'.cell? ⟨bO,0,none⟩=some (.slice ao no co)/\Bl K W'):=hid λW' I=>⟨(e1.out.below I).c0,(e1.out.below I).c1,(HC.out W' (bt c7 I)).1,(HC.out W' (bt c7 I)).2.1,I⟩;clear d9 cT cO;cases hem:xB tl with
 |true=>
  rw[hem]at KC;have f4:Hid (J (zH tl o) K∨Jx K):=hid (Or.inl (HN.out _ c7 hem));clear hem HN HK KW O HC HE e0;go_wp2_with (first|(go_at_call 66;refine KC.out.mono ?_;rintro e w' ⟨rfl,hw⟩;obtain rfl:K=w':=hw.symm)|fail)
  go_end0
  exact⟨⟨_,rfl⟩,f4.out⟩
 |false=>
  rw[hem]at KC;have g7:Hid (∀w3 w4 hvv us,Bl K w3->Bl w3 w4->RQ w4 w3.heap.size hvv us (z7 tl o)->(∃g,hvv.ownBlock=some g)->Cl 67 #[.agg #[.slice (some ⟨g2,0,none⟩) 0 c2,.slice ab n cb],hvv,.func (.yield l) #[] #[]] w4 λe Z=>(∃b,e=.returned (.bool b))/\(J (zH tl o) Z∨Jx Z)):=hid λw3 w4 hvv us h1 h2 h3 h4=>HK.out w2 w3 w4 _ _ hvv us cs hem d6 d7 e8 b0 ⟨_,_,rfl⟩ d8 (bt b9 h1) h2 h3 h4;have g8:Hid (∀W',Bl K W'->Cl 68 #[.slice ao no co,.slice at' n ct] W' λe w'=>∃v us,e=.returned v/\RQ w' W'.heap.size v us (z7 tl o)/\(∃g,v.ownBlock=some g)/\Bl W' w'):=hid λW' I=>KW.out W' (bt c7 I);clear hem HN HK KW O HC HE e0 d7 e8 b0 d8 b9 e1;go_upto_region 2 with (first|(go_at_call 66;refine KC.out.mono ?_;rintro e w' ⟨rfl,hw⟩;obtain rfl:K=w':=hw.symm)|fail)
  have s0:=e9.out K.drew (bM _ _).drew;obtain⟨s1,s2,s3,s4,-⟩:=s0
  go_region_law (first
   |(go_simp;go_at_call 68;refine(g8.out _ (bM _ _).drew).mono ?_;rintro e w4 ⟨v4,g9,rfl,f7,i0,f8⟩;obtain⟨r1,r2,r3,r4,-⟩:=e9.out w4 (bt (bM _ _).drew f8);obtain⟨a4,c4,e4⟩:=xJ f7.own;subst e4)
   |(go_simp;go_at_call 67;refine(g7.out _ w4 _ g9 (bM _ _).drew f8 f7 i0).mono ?_;rintro e w5 ⟨⟨b5,rfl⟩,h5⟩)
   |fail)
  all_goals go_end0
  all_goals exact⟨⟨_,rfl⟩,h5⟩
open Go.Shelf
def z8(ps:List (List Int)):Nat:=(ps.filter λq=>decide (0 < q.length)).length
def yE(no:Nat)(ps:List (List Int)):List (List Int):=ps.filter λq=>decide (q.length=no)
theorem qB3(ps:List (List Int))(p:List Int):z8 (ps++[p])=z8 ps+(if 0 < p.length then 1 else 0):=by
 unfold z8;rw[List.filter_append,lA];by_cases h:0 < p.length
 ·rw[if_pos h];simp[h]
 ·rw[if_neg h];simp[h]
theorem qB4(no:Nat)(ps:List (List Int))(p:List Int):yE no (ps++[p])=yE no ps++(if p.length=no then [p] else []):=by
 unfold yE;rw[List.filter_append];by_cases h:p.length=no
 ·rw[if_pos h];simp[h]
 ·rw[if_neg h];simp[h]
theorem qDC(no:Nat)(ps:List (List Int)):(yE no ps).length=qh ps no:=rfl
theorem qDD{qs:List (List Int)}(h:ps <+:qs)(i:Nat):qh ps i<=qh qs i:=by
 obtain⟨r,rfl⟩:=h;exact qEc ps r i
theorem kK(hi:i<=o.length):(zH tl o).filter (λq=>decide (q.length=i))=lvJ tl o i:=by
 unfold zH lvJ;cases xB tl
 ·have:=Uk (nxJ tl o) o.length [] i hi;rw[List.length_nil,Nat.zero_add]at this;exact this
 ·rfl
theorem Ui:∀q∈zH tl o,q.length<=o.length:=λq hq=>by
 unfold zH at hq;cases he:xB tl
 ·rw[he]at hq;have:=(QH (nxJ tl o) o.length [] q hq).2;simpa using this
 ·rw[he]at hq;cases hq
theorem qDE:z8 (zH tl o)=viJ tl o o.length:=by
 unfold z8;rw[Z9 (zH tl o) o.length Ui];unfold viJ;congr 1;refine List.map_congr_left λj I=>?_;have K:=List.mem_range.1 I;unfold qh;rw[kK Oo]
theorem qEb(h:∀q∈ps,q.length<=k)(I:∀i,qh ps i<=10000):z8 ps<=k*10000:=by
 unfold z8;rw[Z9 ps k h]
 have:∀m,((List.range m).map λj=>qh ps (j+1)).sum<=m*10000:=λm=>by
  induction m with
  |zero=>simp
  |succ m ih=>
   rw[List.range_succ,mA,List.sum_append];have:=I (m+1);simp only[List.map_cons,List.map_nil,List.sum_cons,List.sum_nil];omega
 exact this k
theorem qDF(I:okJ tl o=true)(h:∀i,qh (zH tl o) i<=10000):yg tl o=yE o.length (zH tl o)/\yG tl o=(z8 (zH tl o):Int):=by
 have hs:smJ tl o o.length=true:=by
  unfold smJ;rw[bY];intro i hi;have K:=List.mem_range.1 hi;have:=h (i+1);unfold qh at this;rw[kK Oo]at this;exact decide_eq_true this
 obtain⟨M,O⟩:=ZN I;rw[M,O,hs];refine⟨?_,by rw[qDE];rfl⟩;show lvJ tl o o.length=(zH tl o).filter _;rw[kK (bK _)]
theorem qDG(I:okJ tl o=true)(hi:i<=o.length)(h:10000 < qh (zH tl o) i):yg tl o=[]/\yG tl o=-1:=by
 have hs:smJ tl o o.length=false:=by
  unfold qh at h;rw[kK hi]at h;cases i with
  |zero=>have:=ZM tl o;omega
  |succ i=>exact Yl (j:=i) Oo Oo
 obtain⟨K,M⟩:=ZN I;rw[K,M,hs];exact⟨rfl,rfl⟩
def Qh(c:Nat->Nat):Array Value:=#[.int .i64 (c 0),.int .i64 (c 1),.int .i64 (c 2),.int .i64 (c 3),.int .i64 (c 4),.int .i64 (c 5),.int .i64 (c 6)]
def HX(W:World)(k:Nat)(c:Nat->Nat):Prop:=W.heap[k]?=some (.cells (Qh c) 72 (0,0))
theorem qB5(c:Nat->Nat)(h:v < 7):(Qh c)[v]?=some (.int .i64 (c v)):=by
 obtain rfl|rfl|rfl|rfl|rfl|rfl|rfl:v=0∨v=1∨v=2∨v=3∨v=4∨v=5∨v=6:=Oo;all_goals rfl
section
variable {W W':World} {k:Nat} {c:Nat->Nat}
theorem HX.cell(h:HX W k c)(hv:v < 7):W.cell? ⟨k,v,none⟩=some (.int .i64 (c v)):=by rw[cell_of_row _ _ _ _ _ _ h];exact qB5 c hv
theorem HX.free(h:HX W k c)(j:Nat):W.frozen? ⟨k,j,none⟩=false:=by unfold World.frozen?;rw[show W.heap[k]?=_ from h];simp
theorem HX.set(h:HX W k c)(hv:v < 7)(n:Nat):HX (W.setCell ⟨k,v,none⟩ (.int .i64 n)) k (λi=>if i=v then n else c i):=by
 unfold HX;rw[bJ _ _ _ _ _ _ h];obtain rfl|rfl|rfl|rfl|rfl|rfl|rfl:v=0∨v=1∨v=2∨v=3∨v=4∨v=5∨v=6:=Oo;all_goals simp[Qh]
theorem HX.congr{c':Nat->Nat}(h:HX W k c)(I:∀i,i < 7->c' i=c i):HX W k c':=by
 have:Qh c'=Qh c:=by unfold Qh;rw[I 0 Oo,I 1 Oo,I 2 Oo,I 3 Oo,I 4 Oo,I 5 Oo,I 6 Oo]
 unfold HX;rw[this];exact h
end
theorem RQ.kt{v:Value}{ls:List (List Int)}(h:RQ X B v us ls)(M:KT C X Y):RQ Y B v us ls:=
 ⟨qA h.own λg I=>by
  obtain⟨cur,K⟩:=qO h.own I;exact M.cel g cur _ _ K Dd Dd,h.len,λi hi=>qA (h.each i hi) λg I=>by
  obtain⟨cur,K⟩:=qO (h.each i hi) I;exact M.cel g cur _ _ K Dd Dd,h.ap⟩
theorem TyR.of{n:Nat}(hb:Boxed W r 24 vr)(K:W.ownsRow B 25 1 vr n us):TyR (jx0 h r v) W:=λk M=>by
 obtain⟨o,m,c,O⟩:=M;have I:W.cell? ⟨r,0,none⟩=some (.slice (some ⟨k,o,none⟩) m c):=O;rw[hb.cell]at I;cases I
 obtain⟨cur,U⟩:=qO K (g:=k) rfl;exact⟨cur,_,U⟩
theorem RBk.iff(hb:Boxed W r 24 vr)(K:RBk (jx0 h r v) W k):vr.ownBlock=some k:=by
 obtain⟨o,m,c,M⟩:=K;have I:W.cell? ⟨r,0,none⟩=some (.slice (some ⟨k,o,none⟩) m c):=M;rw[hb.cell]at I;cases I
 rfl
section
variable {h r v:Nat} {W W' w3:World} {vr:Value} {us:List Value} {B n g c:Nat}
theorem KpS.box{j:Nat}{y:Value}(O:k=h∨k=v)(hr:r≠k)(I:TyR (jx0 h r v) W->TyR (jx0 h r v) (W.setCell ⟨k,j,none⟩ y)):KpS (jx0 h r v) (λ_=>False) W (W.setCell ⟨k,j,none⟩ y):=by
 have U:(W.setCell ⟨k,j,none⟩ y).heap[(jx0 h r v).r]?=W.heap[(jx0 h r v).r]?:=bE _ _ _ _ hr;refine⟨rfl,rfl,rfl,by simp[World.setCell],λi o hi _ K=>(bE _ _ _ _ λe=>?_).trans hi,λi hi=>Or.inl ((RBk.eq U i).1 hi),I⟩;have M:i=k:=e;rcases O with rfl|rfl
 ·exact K (Or.inl M)
 ·exact K (Or.inr (Or.inr (Or.inl M)))
theorem KpS.rows{o:Obj}{m:Nat}{ys:List Value}(I:(W.alloc o).grownBy w3 vr.ownBlock)(K:w3.ownsRow B 25 1 (.slice (some ⟨g,0,none⟩) m c) m ys)(U:vr.ownBlock=some g∨W.heap.size<=g)(V:g≠r)(M:Boxed (w3.setCell ⟨r,0,none⟩ (.slice (some ⟨g,0,none⟩) m c)) r 24 (.slice (some ⟨g,0,none⟩) m c))(O:∀q,vr.ownBlock=some q->RBk (jx0 h r v) W q):
 KpS (jx0 h r v) (λ_=>False) W (w3.setCell ⟨r,0,none⟩ (.slice (some ⟨g,0,none⟩) m c)):=by
 have hs:=I.size;rw[World.size_alloc]at hs;refine⟨I.os,I.tape,I.output,?_,λi ob hi _ hm=>?_,λi hi=>?_,λ_=>?_⟩
 ·show W.heap.size<=(w3.setCell _ _).heap.size;simp[World.setCell];omega
 ·have a2:i≠r:=λe=>hm (Or.inr (Or.inl e));have a3:=qP hi;refine(bE _ _ _ _ (by exact a2)).trans ((I.block i (by rw[World.size_alloc];omega) λe=>hm (Or.inr (Or.inr (Or.inr (O i e.symm))))).trans ((Below.heap_alloc _ _ _ a3).trans hi))
 ·have h1:=RBk.iff (h:=h) (v:=v) M hi;have h2:g=i:=by simpa[Value.ownBlock]using h1
  subst h2;rcases U with h3|h3
  ·exact Or.inl (O _ h3)
  ·exact Or.inr h3
 ·refine TyR.of M (qA K λq hq=>bE _ _ _ _ ?_);have h2:g=q:=by simpa[Value.ownBlock]using hq
  subst h2;exact V
theorem KpS.keepsF(I:KpS (jx0 h r v) (λ_=>False) W W')(O:TyR (jx0 h r v) W)(hh:h < C)(hr:r < C)(hv:v < C):KeepsFrom C W W':=by
 refine⟨I.size,λk o hC K U=>I.same k o K (Or.inr id) λV=>?_⟩;rcases V with e|e|e|e
 ·have:k=h:=e;omega
 ·have:k=r:=e;omega
 ·have:k=v:=e;omega
 ·obtain⟨cur,z,M⟩:=O k e;rw[K]at M;cases M
  cases U
end
theorem ye{F:Fence}{N:Nat}{P:Program}(w:World){ops:Array Oper}{rest:List Oper}{o:Oper}{a:Act}{Q:Exit->Act->World->Prop}(a3:o.guard=none)(s x:Operand)(t:TypeId)
 (ho:o.op=.call { callee:=.builtin .append,args:=#[s,x],argTypes:=#[t,t] })
 (base:Nat) (e:TypeId) (i:TypeInfo) (z:Value) (size bytes:Nat) (ht:P.underlying t=some (.slice e)) (hi:P.info? e=some i) (hz:i.zero=some z)
 (M:i.size=size) (a4:i.bytes=bytes) (a5:z.cells.size=size) (a6:0 < size)
 (v:Value) (n:Nat) (xs:List Value) (hs:a.eval s=v) (V:w.ownsRow base e size v n xs)
 (ad:Addr) (m c:Nat) (news:List Value) (hx:a.eval x=.slice (some ad) m c) (hl:news.length=m*size) (O:∀j u,news[j]?=some u->w.cell? (ad.add j)=some u) (h1:∀u∈news,u.oneCell'=true)
 (hm:0 < m) (a7:n+m<=maxLen) (I:(n+m)*bytes<=140737488355328) (U:base<=w.heap.size)
 (h:∀g cap w',w'.ownsRow base e size (.slice (some ⟨g,0,none⟩) (n+m) cap) (n+m) (xs++news)->w.grownBy w' v.ownBlock->(v.ownBlock=some g∨g=w.heap.size)->wpListIn F N P ops Q rest (a.put o.dst (.slice (some ⟨g,0,none⟩) (n+m) cap)) w'):wpListIn F N P ops Q (o::rest) a w:=by
 refine wpListIn_plain a3 λK a8=>?_;obtain⟨g,cap,w',a2,r1,r2,r3,-⟩:=run_append_lies (P:=P) w t o.type base e i z size bytes ht hi hz M a4 a5 a6 v n xs V ad m c news hl O h1 hm a7 I U w.heap.size rfl;unfold Oper.wpIn;refine⟨?_,?_⟩
 ·simp[Oper.about,ho,resolve,Target.leads,Sem.run_pure]
 ·rw[Oper.semAt_plain F _ _ (by rw[ho];intro c a9;cases a9)];simp[execOp,ho,resolve,invoke,builtin,hs,hx,a2,Result.andThen];exact a8 _ _ (h g cap w' r1 r2 r3)
theorem xY{K:Nat}{cs I:Array Value}{t':TypeId}{z O:Nat×Nat}(h:W.heap[k]?=some (.cells cs t z))(M:W.heap[K]?=some (.cells I t' O))(U:t≠t'):k≠K:=λe=>by
 subst e;rw[h]at M;cases M
 exact U rfl
structure JS(B bo r v h:Nat)(vo:Value)(c:Nat->Nat)(vn:Int)(ls:List (List Int))(vr:Value)(us:List Value)(w W:World):Prop where
 hb:HX W h c
 rb:Boxed W r 24 vr
 rq:RQ W (bo+1) vr us ls
 vb:Boxed W v 3 (.int .i64 vn)
 ob:Boxed W bo 25 vo
 bel:Below B w W
 sh:∃g k,vr=.slice (some ⟨g,0,none⟩) ls.length k
 ap:∀i,i < ls.length->∀g,(us.getD i undef).ownBlock=some g->g≠v
 low:B<=bo/\B<=r/\B<=v/\B<=h
section
variable {B bo r v h:Nat} {vo vr:Value} {c:Nat->Nat} {vn:Int} {ls:List (List Int)} {us:List Value} {w W Y:World}
theorem JS.kt(j:JS B bo r v h vo c vn ls vr us w W)(I:KT C W Y)(K:B<=C):JS B bo r v h vo c vn ls vr us w Y:=
 ⟨(I.cel _ _ _ _ j.hb Dd Dd).trans j.hb,(I.cel _ _ _ _ j.rb Dd Dd).trans j.rb,j.rq.kt I,(I.cel _ _ _ _ j.vb Dd Dd).trans j.vb,(I.cel _ _ _ _ j.ob Dd Dd).trans j.ob,j.bel.trans (I.bel.mono K),j.sh,j.ap,j.low⟩
theorem JS.ty(j:JS B bo r v h vo c vn ls vr us w W):TyR (jx0 h r v) W:=TyR.of j.rb j.rq.own
theorem JS.own_ne(j:JS B bo r v h vo c vn ls vr us w W){cs:Array Value}(I:W.heap[k]?=some (.cells cs t (0,0)))(K:25≠t):vr.ownBlock≠some k:=λe=>Go.Proofs.YtkaipapdlnojiaaGreat.own_ne j.rq.own ⟨_,I⟩ K e.symm
theorem JS.held(j:JS B bo r v h vo c vn ls vr us w W)(hi:i < 7)(n:Nat):JS B bo r v h vo (λq=>if q=i then n else c q) vn ls vr us w (W.setCell ⟨h,i,none⟩ (.int .i64 n))/\KpS (jx0 h r v) (λ_=>False) W (W.setCell ⟨h,i,none⟩ (.int .i64 n)):=by
 have O:r≠h:=xY j.rb j.hb Dd;have U:v≠h:=xY j.vb j.hb Dd;have V:bo≠h:=xY j.ob j.hb Dd;have k:∀q,q≠h->(W.setCell ⟨h,i,none⟩ (.int .i64 n)).heap[q]?=W.heap[q]?:=λq hq=>bE _ _ _ _ hq;have I:Boxed (W.setCell ⟨h,i,none⟩ (.int .i64 n)) r 24 vr:=(k _ O).trans j.rb;have K:RQ (W.setCell ⟨h,i,none⟩ (.int .i64 n)) (bo+1) vr us ls:=⟨qA j.rq.own λg M=>k g λe=>j.own_ne j.hb Dd (by rw[M,e]),j.rq.len,λq hq=>qA (j.rq.each q hq) λg M=>k g λe=>Go.Proofs.YtkaipapdlnojiaaGreat.own_ne (j.rq.each q hq) ⟨_,j.hb⟩ Dd (by rw[M,e]),j.rq.ap⟩;refine⟨⟨j.hb.set hi n,I,K,(k _ U).trans j.vb,(k _ V).trans j.ob,j.bel.setCell (by exact j.low.2.2.2) _,j.sh,j.ap,j.low⟩,KpS.box (Or.inl rfl) O λ_=>TyR.of I K.own⟩
theorem JS.vis(j:JS B bo r v h vo c vn ls vr us w W)(n:Int):JS B bo r v h vo c n ls vr us w (W.setCell ⟨v,0,none⟩ (.int .i64 n))/\KpS (jx0 h r v) (λ_=>False) W (W.setCell ⟨v,0,none⟩ (.int .i64 n)):=by
 have O:r≠v:=xY j.rb j.vb Dd;have U:h≠v:=xY j.hb j.vb Dd;have V:bo≠v:=xY j.ob j.vb Dd;have k:∀q,q≠v->(W.setCell ⟨v,0,none⟩ (.int .i64 n)).heap[q]?=W.heap[q]?:=λq hq=>bE _ _ _ _ hq;have I:Boxed (W.setCell ⟨v,0,none⟩ (.int .i64 n)) r 24 vr:=(k _ O).trans j.rb;have K:RQ (W.setCell ⟨v,0,none⟩ (.int .i64 n)) (bo+1) vr us ls:=⟨qA j.rq.own λg M=>k g λe=>j.own_ne j.vb Dd (by rw[M,e]),j.rq.len,λq hq=>qA (j.rq.each q hq) λg M=>k g (j.ap q hq g M),j.rq.ap⟩;refine⟨⟨(k _ U).trans j.hb,I,K,j.vb.set _,(k _ V).trans j.ob,j.bel.setCell (by exact j.low.2.2.1) _,j.sh,j.ap,j.low⟩,KpS.box (Or.inr rfl) O λ_=>TyR.of I K.own⟩
theorem JS.push(j:JS B bo r v h vo c vn ls vr us w W){o:Obj}{g cp:Nat}{u:Value}{l:List Int}(hu:W.ownsRow (bo+1) 3 1 u l.length (l.map (Value.int .i64)))(hn:∀i,i < ls.length->∀g,(us.getD i undef).ownBlock=some g->u.ownBlock≠some g)(hv:u.ownBlock≠some v)
 (K:w3.ownsRow (bo+1) 25 1 (.slice (some ⟨g,0,none⟩) (ls.length+1) cp) (ls.length+1) (us++[u])) (V:(W.alloc o).grownBy w3 vr.ownBlock) (a2:vr.ownBlock=some g∨g=(W.alloc o).heap.size):
 Boxed w3 r 24 vr/\JS B bo r v h vo c vn (ls++[l]) (.slice (some ⟨g,0,none⟩) (ls.length+1) cp) (us++[u]) w (w3.setCell ⟨r,0,none⟩ (.slice (some ⟨g,0,none⟩) (ls.length+1) cp))/\KpS (jx0 h r v) (λ_=>False) W (w3.setCell ⟨r,0,none⟩ (.slice (some ⟨g,0,none⟩) (ls.length+1) cp)):=by
 have hq:=j.rq.step hu hn K V;have kk:∀q,q < W.heap.size->vr.ownBlock≠some q->w3.heap[q]?=W.heap[q]?:=λq a3 I=>zI V a3 λe=>I e.symm;have r3:Boxed w3 r 24 vr:=(kk _ j.rb.lt (j.own_ne j.rb Dd)).trans j.rb;have e1:h≠r:=xY j.hb j.rb Dd;have e2:v≠r:=xY j.vb j.rb Dd;have e3:bo≠r:=xY j.ob j.rb Dd;have k:∀q,q≠r->(w3.setCell ⟨r,0,none⟩ (.slice (some ⟨g,0,none⟩) (ls.length+1) cp)).heap[q]?=w3.heap[q]?:=λq hq=>bE _ _ _ _ hq;have a4:vr.ownBlock≠some bo:=λe=>by have:=(j.rq.own.lt bo e).1;omega
 have M:g≠r:=λe=>Go.Proofs.YtkaipapdlnojiaaGreat.own_ne K ⟨_,r3⟩ Dd (by rw[e];rfl);have O:=r3.set (.slice (some ⟨g,0,none⟩) (ls.length+1) cp)
 have a5:∀q,vr.ownBlock=some q->RBk (jx0 h r v) W q:=λq hq=>by
  obtain⟨g0,k0,e⟩:=j.sh;rw[e]at hq;have:g0=q:=by simpa[Value.ownBlock]using hq
  subst this;exact⟨0,ls.length,k0,by show W.cell? ⟨r,0,none⟩=_;rw[j.rb.cell,e]⟩
 refine⟨r3,⟨?_,O,⟨qA hq.own λq I=>k q λe=>?_,hq.len,λi hi=>qA (hq.each i hi) λq I=>k q λe=>Go.Proofs.YtkaipapdlnojiaaGreat.own_ne (hq.each i hi) ⟨_,r3⟩ Dd (by rw[I,e]),hq.ap⟩,?_,?_,?_,⟨g,cp,by rw[lA];rfl⟩,λi hi q I=>?_,j.low⟩,?_⟩
 ·exact(k _ e1).trans ((kk _ (qP j.hb) (j.own_ne j.hb Dd)).trans j.hb)
 ·have:g=q:=by simpa[Value.ownBlock]using I
  exact M (this.trans e)
 ·exact(k _ e2).trans ((kk _ j.vb.lt (j.own_ne j.vb Dd)).trans j.vb)
 ·exact(k _ e3).trans ((kk _ j.ob.lt a4).trans j.ob)
 ·have a6:B<=W.heap.size:=by have:=j.low.1;have:=j.ob.lt;omega
  refine((j.bel.alloc a6 o).grown V (by rw[World.size_alloc];omega) λq I=>?_).setCell (by exact j.low.2.1) _;have h1:=(j.rq.own.lt q I).1;have h2:=j.low.1;omega
 ·rw[lA,lS]at hi;by_cases U:i < ls.length
  ·rw[gD,aL (by rw[j.rq.len];exact U),<-gD]at I;exact j.ap i U q I
  ·have a7:i=us.length:=by rw[j.rq.len];omega
   rw[a7,gD,bX (bK _),Nat.sub_self]at I;intro e;exact hv (by rw[<-e];exact I)
 ·refine KpS.rows V K ?_ M O a5;rcases a2 with h1|h1
  ·exact Or.inl h1
  ·exact Or.inr (by rw[h1,World.size_alloc];omega)
theorem JS.reset(j:JS B bo r v h vo c vn ls vr us w W):JS B bo r v h vo c vn [] (.slice (some ⟨W.heap.size,0,none⟩) 0 0) [] w ((W.alloc (.cells #[] 25)).setCell ⟨r,0,none⟩ (.slice (some ⟨W.heap.size,0,none⟩) 0 0))/\KpS (jx0 h r v) (λ_=>False) W ((W.alloc (.cells #[] 25)).setCell ⟨r,0,none⟩ (.slice (some ⟨W.heap.size,0,none⟩) 0 0)):=by
 have I:(W.alloc (.cells #[] 25)).ownsRow (bo+1) 25 1 (.slice (some ⟨W.heap.size,0,none⟩) 0 0) 0 []:=oM W (e:=25) (size:=1) (base:=bo+1) #[] 0 (by have:=j.ob.lt;omega) Dd rfl;have r3:Boxed (W.alloc (.cells #[] 25)) r 24 vr:=j.rb.alloc _;have e1:h≠r:=xY j.hb j.rb Dd;have e2:v≠r:=xY j.vb j.rb Dd;have e3:bo≠r:=xY j.ob j.rb Dd;have k:∀q,q≠r->((W.alloc (.cells #[] 25)).setCell ⟨r,0,none⟩ (.slice (some ⟨W.heap.size,0,none⟩) 0 0)).heap[q]?=(W.alloc (.cells #[] 25)).heap[q]?:=λq hq=>bE _ _ _ _ hq;have O:B<=W.heap.size:=by have:=j.low.1;have:=j.ob.lt;omega
 have K:W.heap.size≠r:=by have:=j.rb.lt;omega
 have M:=r3.set (.slice (some ⟨W.heap.size,0,none⟩) 0 0)
 have U:∀q,vr.ownBlock=some q->RBk (jx0 h r v) W q:=λq hq=>by
  obtain⟨g0,k0,e⟩:=j.sh;rw[e]at hq;have:g0=q:=by simpa[Value.ownBlock]using hq
  subst this;exact⟨0,ls.length,k0,by show W.cell? ⟨r,0,none⟩=_;rw[j.rb.cell,e]⟩
 have V:∀q o,W.heap[q]?=some o->(W.alloc (.cells #[] 25)).heap[q]?=some o:=λq o hq=>(Below.heap_alloc _ _ _ (qP hq)).trans hq;refine⟨⟨(k _ e1).trans (V _ _ j.hb),M,⟨qA I λq hq=>k q λe=>?_,rfl,λi hi=>by simp at hi,λi q _ hq=>by simp at hq⟩,(k _ e2).trans (V _ _ j.vb),(k _ e3).trans (V _ _ j.ob),(j.bel.alloc O _).setCell (by exact j.low.2.1) _,⟨_,_,rfl⟩,λi hi=>by simp at hi,j.low⟩,KpS.rows (World.grownBy.refl _ vr.ownBlock) I (Or.inr (bK _)) K M U⟩;have:W.heap.size=q:=by simpa[Value.ownBlock]using hq
 exact K (this.trans e)
end
attribute [local go_sem] Oper.semAt_some
theorem qAr(w:World)(vt vo:Value)(tl:List TbV)(o:List Int)(h:ITs w vt tl)(ho:IS w vo o)(hl:tl.length<=1048576)(m6:o.length<=1048576)(hs:∀t∈tl,TvS t):
 Cl 9 #[vt,vo] w λe w'=>∃v us,e=.returned (.tuple #[v,.int .i64 (yG tl o)])/\RQ w' w.heap.size v us (yg tl o)/\Bl w w':=by
 have HT:=hid h;have HO:=hid ho;have KA:Hid (∀W,Bl w W->Cl 32 #[vt] W λe w'=>e=.returned (.bool (tl.all zK))/\Bl W w'):=hid λW hW=>XD W vt tl (h.below hW) Oo hs;have KO:Hid (∀W,Bl w W->tl.length<=8->tl.all zK=true->Cl 33 #[vt,vo] W λe w'=>e=.returned (.bool (xu tl o))/\Bl W w'):=hid λW hW h8 ha=>XC W vt vo tl o (h.below hW) (ho.below hW) Oo m6 (λt ht=>bY.1 ha t ht);have O:Hid (okJ tl o=(decide (tl.length<=8)&&tl.all zK&&xu tl o)):=hid rfl;obtain⟨at',ct,o8,-⟩:=h;obtain⟨ao,co,o9,-⟩:=ho;subst o8 o9;have k8:Hid (okJ tl o=false->yg tl o=[]/\yG tl o=-1):=hid qAC;obtain⟨RJ,k9⟩:∃RJ,RJ=yg tl o:=⟨_,rfl⟩;obtain⟨VJ,l0⟩:∃VJ,VJ=yG tl o:=⟨_,rfl⟩;have l1:=hid k9;have l2:=hid l0;rw[<-k9,<-l0]at k8 ⊢;clear k9 l0 hs;obtain⟨n,hn⟩:∃n,n=tl.length:=⟨_,rfl⟩;rw[<-hn]at hl KA KO O ⊢;have m7:=hid hn;clear hn;obtain⟨no,l3⟩:∃no,no=o.length:=⟨_,rfl⟩;rw[<-l3]at m6 KO ⊢;have d0:=hid l3;clear l3;rw[<-m7.out]at HT;obtain⟨W1,b0⟩:∃W1,W1=(((w.alloc (.cells #[.slice ao no co] 25)).alloc (.cells #[] 25)).alloc (.cells #[.slice (some ⟨w.heap.size+1,0,none⟩) 0 0] 24)).alloc (.cells #[.int .i64 0] 3):=⟨_,rfl⟩;have e5:Bl w W1:=by rw[b0];exact qE (qE (qE (qE (bM _ _) _) _) _) _
 have p6:Hid (W1.heap.size=w.heap.size+4):=hid (by rw[b0];simp);have a1:∀(W:World) (o:Obj) (k:Nat),k=W.heap.size->(W.alloc o).heap[k]?=some o:=λW o k hk=>by rw[hk];exact World.alloc_heap_new W o
 have a2:∀(W:World) (o o':Obj) (k:Nat),W.heap[k]?=some o->(W.alloc o').heap[k]?=some o:=λW o o' k hk=>(Below.heap_alloc _ _ _ (qP hk)).trans hk;have f4:Hid (Boxed W1 w.heap.size 25 (.slice ao no co)):=hid (by rw[b0];exact a2 _ _ _ _ (a2 _ _ _ _ (a2 _ _ _ _ (a1 _ _ _ rfl))));have f7:Hid (Boxed W1 (w.heap.size+2) 24 (.slice (some ⟨w.heap.size+1,0,none⟩) 0 0)):=hid (by rw[b0];exact a2 _ _ _ _ (a1 _ _ _ Ss));have l4:Hid (Boxed W1 (w.heap.size+3) 3 (.int .i64 0)):=hid (by rw[b0];exact a1 _ _ _ Ss)
 have l5:Hid (RQ W1 w.heap.size (.slice (some ⟨w.heap.size+1,0,none⟩) 0 0) [] []):=hid (by
  refine⟨?_,rfl,λi hi=>by simp at hi,λi j _ hj=>by simp at hj⟩;have M:=oM (w.alloc (.cells #[.slice ao no co] 25)) (e:=25) (size:=1) (base:=w.heap.size) #[] 0 Ss Dd rfl;rw[World.size_alloc]at M;rw[b0];exact qB M (qE (qE (bM _ _) _) _))
 clear a1 a2;refine(callsIn_wide (n:=0)).1 (callsIn_of_wp_marks Tryz.func9 rfl trivial ?_ rfl);simp only[Tryz.ntmps9,List.size_toArray,List.length_cons,List.length_nil,Nat.reduceAdd,Nat.reduceSub,Array.replicate_succ,Array.replicate_zero,List.push_toArray,List.append_toArray,List.nil_append,List.cons_append];refine wpIn_mono (Q:=npQ (bodyPostM Fence.wide 0 Tryz.prog Tryz.f9 (λe w'=>∃v us,e=.returned (.tuple #[v,.int .i64 VJ])/\RQ w' w.heap.size v us RJ/\Bl w w'))) ?_ npQ.imp;refine(wpIn_wide (n:=0)).2 ?_;go_upto_region 2 with fail
 rw[<-b0];clear b0;have b7:Hid (∀W,Bl W1 W->W.cell? ⟨w.heap.size,0,none⟩=some (.slice ao no co)/\W.cell? ⟨w.heap.size+1+1,0,none⟩=some (.slice (some ⟨w.heap.size+1,0,none⟩) 0 0)):=hid λW hW=>⟨Boxed.cell (t:=25) ((hW.block _ f4.out.lt).trans f4.out),Boxed.cell (t:=24) ((hW.block _ f7.out.lt).trans f7.out)⟩
 have i5:Hid (∀W,Bl W1 W->okJ tl o=false->∃v us,Ending.returned (.tuple #[.slice (some ⟨w.heap.size+1,0,none⟩) 0 0,.int .i64 (-1)])=.returned (.tuple #[v,.int .i64 VJ])/\RQ W w.heap.size v us RJ/\Bl w W):=hid λW hW hy=>by
  obtain⟨e1,e2⟩:=k8.out hy;rw[e1,e2];exact⟨_,[],rfl,l5.out.below hW,bt e5 hW⟩
 have e6:=hid (KA.out W1 e5);by_cases h8:n<=8
 ·have q8:¬((8:Int) < (n:Int)):=Oo;rw[decide_eq_true h8,Bool.true_and]at O;have i6:Hid (tl.all zK=true->∀W,Bl W1 W->Cl 33 #[.slice at' n ct,.slice ao no co] W λe w'=>e=.returned (.bool (xu tl o))/\Bl W w'):=hid λM W hW=>KO.out W (bt e5 hW) h8 M;cases hA:tl.all zK with
  |false=>
   rw[hA]at e6 O;have l6:Hid (okJ tl o=false):=hid O.out;clear O KO i6 KA hA;go_wp2_with (first|(go_at_call 32;refine e6.out.mono ?_;rintro e w2 ⟨rfl,a3⟩;obtain⟨k1,k2⟩:=b7.out w2 a3)|fail)
   exact⟨_,by simp[results,Tryz.results9,go_sem],i5.out _ a3 l6.out⟩
  |true=>
   rw[hA]at e6 O;rw[Bool.true_and]at O;have f8:=hid (i6.out hA);have f9:=hid hA;cases hO:xu tl o with
   |false=>
    rw[hO]at f8 O;clear KO i6 KA hA hO f9;go_wp2_with (first|(go_at_call 32;refine e6.out.mono ?_;rintro e w2 ⟨rfl,a3⟩;obtain⟨k1,k2⟩:=b7.out w2 a3)|(go_at_call 33;refine(f8.out w2 a3).mono ?_;rintro e w3 ⟨rfl,d9⟩;have d6:=bt a3 d9;obtain⟨r1,r2⟩:=b7.out w3 d6)|fail)
    exact⟨_,by simp[results,Tryz.results9,go_sem],i5.out _ d6 O.out⟩
   |true=>
    rw[hO]at f8 O;clear KO i6 KA hA k8 i5;go_upto_region 4 with (first|(go_at_call 32;refine e6.out.mono ?_;rintro e w2 ⟨rfl,a3⟩;obtain⟨k1,k2⟩:=b7.out w2 a3)|(go_at_call 33;refine(f8.out w2 a3).mono ?_;rintro e w3 ⟨rfl,d9⟩;have d6:=bt a3 d9;obtain⟨r1,r2⟩:=b7.out w3 d6)|fail)
    obtain⟨W4,i7⟩:∃W4,W4=w3.alloc (.cells #[.int .i64 0,.int .i64 0,.int .i64 0,.int .i64 0,.int .i64 0,.int .i64 0,.int .i64 0] 72):=⟨_,rfl⟩;have m8:Bl w3 W4:=by rw[i7];exact qE (bM _ _) _
    have i8:W4.heap[w3.heap.size]?=some (.cells #[.int .i64 0,.int .i64 0,.int .i64 0,.int .i64 0,.int .i64 0,.int .i64 0,.int .i64 0] 72 (0,0)):=by rw[i7];exact World.alloc_heap_new w3 _
    have m9:=bt d6 m8;obtain⟨q1,q2⟩:=b7.out W4 m9;obtain⟨Wp,g2⟩:∃Wp,Wp=(W4.alloc (.cells #[.slice at' n ct] 23)).alloc (.cells #[.slice ao no co] 25):=⟨_,rfl⟩;go_upto_region 5 with fail
    rw[<-i7];clear i7;go_wp2_with (first|(go_at_call 34;refine(Xm _ _ _ _ _ _ _).mono ?_;rintro e w5 ⟨rfl,rfl⟩)|fail)
    rw[<-g2];have r4:W1.heap.size<=w3.heap.size:=d6.size;have r0:=p6.out;have i9:Bl W4 Wp:=by rw[g2];exact qE (qE (bM _ _) _) _
    have a7:=bt m9 i9;have n4:Wp.heap[W4.heap.size]?=some (.cells #[.slice at' n ct] 23 (0,0)):=by rw[g2];exact(Below.heap_alloc _ _ _ Ss).trans (World.alloc_heap_new W4 _)
    have n5:Wp.heap[W4.heap.size+1]?=some (.cells #[.slice ao no co] 25 (0,0)):=by
     rw[g2];have:=World.alloc_heap_new (W4.alloc (.cells #[.slice at' n ct] 23)) (.cells #[.slice ao no co] 25);rw[World.size_alloc]at this;exact this
    have n6:JS w.heap.size w.heap.size (w.heap.size+1+1) (w.heap.size+1+1+1) w3.heap.size (.slice ao no co) (qh []) ((z8 []:Nat):Int) (yE no []) (.slice (some ⟨w.heap.size+1,0,none⟩) 0 0) [] w Wp:=by
     refine⟨(i9.block _ (qP i8)).trans i8,(a7.block _ f7.out.lt).trans f7.out,?_,(a7.block _ l4.out.lt).trans l4.out,(a7.block _ f4.out.lt).trans f4.out,bt e5 a7,⟨_,_,rfl⟩,λi hi=>by simp[yE]at hi,Oo⟩;have M:=l5.out.below a7;refine⟨?_,rfl,λi hi=>by simp[yE]at hi,λi j _ hj=>by simp[yE]at hj⟩;exact⟨M.own.1,M.own.2.imp id λ⟨g,cap,cur,e1,e2,e3⟩=>⟨g,cap,cur,e1,by cases e1;omega,e3⟩⟩
    have r3:w.heap.size+4<=Wp.heap.size:=by have:=a7.size;omega
    have l7:w3.heap.size < Wp.heap.size:=by have M:=qP i8;have V:=i9.size;omega
    have j5:QL tl o:=Uu hO;have p7:no<=6:=by have M:=(vh.1 hO).length_eq;have V:=jk tl;have h3:=d0.out;omega
    have j0:Gives Tryz.prog 64 #[.pointer (some ⟨W4.heap.size,0,none⟩),.pointer (some ⟨W4.heap.size+1,0,none⟩)] (λvp=>#[vp]) (λl=>KpS (jx0 w3.heap.size (w.heap.size+1+1) (w.heap.size+1+1+1)) λk=>k=l) (λl=>KpS (jx0 w3.heap.size (w.heap.size+1+1) (w.heap.size+1+1+1)) λk=>k=l) (qC6 no (zH tl o)) (zH tl o) Wp:=by
     rw[d0.out];refine Z8 _ _ _ Wp _ _ (.slice at' n ct) (.slice ao o.length co) tl o n4 (by rw[<-d0.out];exact n5) (HT.out.below (bt e5 a7)) (HO.out.below (bt e5 a7)) (λt ht=>bY.1 f9.out t ht) j5 (by rw[<-m7.out];omega) (by rw[<-d0.out];omega) l7 Oo Oo n6.ty
    have l8:Hid ((∀i,qh (zH tl o) i<=10000)->RJ=yE no (zH tl o)/\VJ=(z8 (zH tl o):Int)):=hid λM=>by rw[l1.out,l2.out,d0.out];exact qDF O.out M
    have l9:Hid (∀i,i<=no->10000 < qh (zH tl o) i->RJ=[]/\VJ=-1):=hid λi M V=>by rw[l1.out,l2.out];exact qDG O.out (by rw[<-d0.out];exact M) V
    have p8:Hid (∀q∈zH tl o,q.length<=no):=hid λq hq=>by rw[d0.out];exact Ui q hq
    generalize zH tl o=j1 at *;clear n4 n5 j5 g2 i8 HT HO l1 l2 O f9 e6 f8 b7 l5 a3 d6 d9 m8 q1 q2 r1 r2 k1 k2 hO f4 f7 l4 a7 i9;obtain⟨II,b9⟩:∃II:List (List Int)->World->Prop,II=λps W=>∃vr us,JS w.heap.size w.heap.size (w.heap.size+1+1) (w.heap.size+1+1+1) w3.heap.size (.slice ao no co) (qh ps) ((z8 ps:Nat):Int) (yE no ps) vr us w W/\∀i,qh ps i<=10000:=⟨_,rfl⟩;obtain⟨IX,e7⟩:∃IX:Code->World->Prop,IX=λc W=>c=.exit 0/\(∃i,i<=no/\10000 < qh j1 i)/\∃vr cc,JS w.heap.size w.heap.size (w.heap.size+1+1) (w.heap.size+1+1+1) w3.heap.size (.slice ao no co) cc (-1) [] vr [] w W:=⟨_,rfl⟩;have g4:w.heap.size<=Wp.heap.size:=Oo;refine(wpIn_wide (n:=0)).1 ?_
    refine QM (α:=List Int) (β:=Value) (gf:=64) (lb:=#[.pointer (some ⟨W4.heap.size,0,none⟩),.pointer (some ⟨W4.heap.size+1,0,none⟩)]) rfl (enters_of Tryz.func64 (by kernel_rfl) rfl) j0 (λ_=>rfl)
     (λM V=>KpS.trans M V) (λl W o o' M V h3=>KpS.put rfl V h3 (by show w.heap.size+1+1≠l;omega)) (λM V h3=>(KpS.trans M V).trans h3)
     II IX
     (λs X Y hX hk=>by rw[b9]at hX ⊢;obtain⟨vr,us,M,V⟩:=hX;exact⟨vr,us,M.kt hk g4,V⟩)
     (λc X Y hX hk=>by rw[e7]at hX ⊢;obtain⟨h0,M,vr,cc,V⟩:=hX;exact⟨h0,M,vr,cc,V.kt hk g4⟩)
     (by rw[b9];exact⟨_,_,n6,λi=>by show(0:Nat)<=_;omega⟩)
     (λl pre x b a' W=>∃X vr us,JS w.heap.size w.heap.size (w.heap.size+1+1) (w.heap.size+1+1+1) w3.heap.size (.slice ao no co) (qh pre) ((z8 pre:Nat):Int) (yE no pre) vr us w X/\(∀i,qh pre i<=10000)/\KT Wp.heap.size X W/\W.ownsRow X.heap.size 3 1 b x.length (x.map (Value.int .i64))/\x.length<=no/\(∃g c,b=.slice (some ⟨g,0,none⟩) x.length c)/\pre++[x] <+:j1/\a'={ tmps:=#[.slice at' n ct,.slice ao no co,undef,.pointer (some ⟨w.heap.size,0,none⟩),.slice none 0 0,.int .i64 0,.pointer (some ⟨w.heap.size+1+1,0,none⟩),.pointer (some ⟨w.heap.size+1+1+1,0,none⟩),.pointer (some ⟨w3.heap.size,0,none⟩),b,undef,.slice (some ⟨w.heap.size+1,0,none⟩) 0 0,.slice at' n ct,.int .i64 n,.bool false,.bool false,.slice at' n ct,.bool true,.bool false,.bool false,.bool false,.slice at' n ct,.slice ao no co,.bool true,.bool false,.bool false,undef,.slice at' n ct,.slice ao no co,.func (.func 64) #[] #[.pointer (some ⟨W4.heap.size,0,none⟩),.pointer (some ⟨W4.heap.size+1,0,none⟩)],b,undef,undef,undef,undef,undef,undef,undef,undef,undef,undef,undef,undef,undef,undef,undef,undef,undef,undef,undef,undef,undef,undef,undef,undef,undef,undef],defers:=[] })
     (λl pre x b a' W o o' ⟨X,vr,us,M,V,h3,h4,h5⟩ j3 h6 h7=>⟨X,vr,us,M,V,h3.trans (KT.put (B:=Wp.heap.size) o' j3 h6 h7),qA h4 λg hg=>by
      obtain⟨cur,hc⟩:=qO h4 hg;exact(KT.put (B:=Wp.heap.size) o' j3 h6 h7).cel g cur _ _ hc Dd Dd,h5⟩)
     ?assign ?body ?done ?stop
    case assign=>
     rintro l pre x b X Y K j3 hI hk ⟨ho,m0,⟨g,c,rfl⟩,c7⟩ ⟨rr,p9⟩ hK;rw[b9]at hI;obtain⟨vr,us,M,V⟩:=hI;gi_wp2
     exact hK _ _ (KeepsFrom.refl _ _) (KpS.refl _ _ _) ⟨X,vr,us,M,V,hk,ho,m0,⟨g,c,rfl⟩,c7,rfl⟩
    case body=>
     rintro l pre x b a' W j3 ⟨rr,p9⟩ ⟨X,vr,us,jX,g5,hk,j4,m0,⟨g,c,rfl⟩,c7,rfl⟩;have jW:=jX.kt hk g4;have n8:x.length < 7:=Oo;have q0:X.heap.size<=g:=(j4.lt g rfl).1;have q6:=jX.vb.lt;have k0:g≠w.heap.size+1+1+1:=Oo;obtain⟨iS,hj,n9,o2,o3⟩:=info_parts Tryz.infoIS;have q7:=jX.ob.lt;have g7:=jW.held n8 (qh pre x.length+1);rw[show((qh pre x.length+1:Nat):Int)=(qh pre x.length:Int)+1 by omega]at g7;obtain⟨a6,ka⟩:=g7;have r5:=g5 x.length
     have ja:JS w.heap.size w.heap.size (w.heap.size+1+1) (w.heap.size+1+1+1) w3.heap.size (.slice ao no co) (qh (pre++[x])) ((z8 pre:Nat):Int) (yE no pre) vr us w (W.setCell ⟨w3.heap.size,x.length,none⟩ (.int .i64 ((qh pre x.length:Int)+1))):=⟨a6.hb.congr λi _=>by
      rw[QI];by_cases e:i=x.length
      ·rw[if_pos e.symm,if_pos e,e]
      ·rw[if_neg (λh=>e h.symm),if_neg e];rfl,a6.rb,a6.rq,a6.vb,a6.ob,a6.bel,a6.sh,a6.ap,a6.low⟩
     have k4:W.ownsRow (w.heap.size+1) 3 1 (.slice (some ⟨g,0,none⟩) x.length c) x.length (x.map (Value.int .i64)):=qF j4 Oo;have o4:g≠w3.heap.size:=λe=>own_ne j4 ⟨_,jW.hb⟩ Dd (by rw[e];rfl)
     have a4:Hid (∀W' d7 m1,qh pre x.length+1<=10000->JS w.heap.size w.heap.size (w.heap.size+1+1) (w.heap.size+1+1+1) w3.heap.size (.slice ao no co) (qh (pre++[x])) ((z8 (pre++[x]):Nat):Int) (yE no (pre++[x])) d7 m1 w W'->KpS (jx0 w3.heap.size (w.heap.size+1+1) (w.heap.size+1+1+1)) (λ_=>False) W W'->KeepsFrom Wp.heap.size W W'/\KpS (jx0 w3.heap.size (w.heap.size+1+1) (w.heap.size+1+1+1)) (λk=>k=l) W W'/\II (pre++[x]) W'):=hid λW' d7 m1 M V h3=>by
      refine⟨h3.keepsF jW.ty l7 Oo Oo,h3.sub λ_ h=>h.elim,?_⟩;rw[b9];refine⟨d7,m1,V,λi=>?_⟩;rw[QI];by_cases e:x.length=i
      ·rw[if_pos e,<-e];exact M
      ·rw[if_neg e];exact g5 i
     have a8:Hid (∀W' d7 cc,10000 < qh pre x.length+1->JS w.heap.size w.heap.size (w.heap.size+1+1) (w.heap.size+1+1+1) w3.heap.size (.slice ao no co) cc (-1) [] d7 [] w W'->KpS (jx0 w3.heap.size (w.heap.size+1+1) (w.heap.size+1+1+1)) (λ_=>False) W W'->KeepsFrom Wp.heap.size W W'/\KpS (jx0 w3.heap.size (w.heap.size+1+1) (w.heap.size+1+1+1)) (λk=>k=l) W W'/\IX (.exit 0) W'):=hid λW' d7 cc M V h3=>by
      refine⟨h3.keepsF jW.ty l7 Oo Oo,h3.sub λ_ h=>h.elim,?_⟩;rw[e7];refine⟨rfl,⟨x.length,m0,?_⟩,d7,cc,V⟩;have h4:=qDD c7 x.length;rw[QI,if_pos rfl]at h4;omega
     have e8:Hid ((W.setCell ⟨w3.heap.size,x.length,none⟩ (.int .i64 ((qh pre x.length:Int)+1))).ownsRow (w.heap.size+1) 3 1 (.slice (some ⟨g,0,none⟩) x.length c) x.length (x.map (Value.int .i64))):=hid (qA k4 λq hq=>bE _ _ _ _ λe=>by
      have e2:q=w3.heap.size:=e;have:g=q:=by simpa[Value.ownBlock]using hq
      exact o4 (this.trans e2))
     have m2:Hid (∀i,i < (yE no pre).length->∀q,(us.getD i undef).ownBlock=some q->(Value.slice (some ⟨g,0,none⟩) x.length c).ownBlock≠some q):=hid λi hi q hq e=>by
      have M:=((jX.rq.each i hi).lt q hq).2;have:g=q:=by simpa[Value.ownBlock]using e
      omega
     have r7:z8 pre<=60000:=by
      have M:=qEb (k:=no) (λq hq=>p8.out q (c7.subset (List.mem_append_left _ hq))) g5;have V:no*10000<=6*10000:=Nat.mul_le_mul_right _ p7;omega
     have g8:=hid (qB3 pre x);have g9:=hid (qB4 no pre x);have r8:(yE no pre).length<=10000:=by rw[qDC];exact g5 no
     have I:=hid ja;have c8:=hid ka;have c1:=jW.hb.cell n8;have f1:=jW.hb.free x.length;have n1:w.heap.size+1+1≠w3.heap.size:=xY jW.rb jW.hb Dd;have n2:w.heap.size+1+1+1≠w3.heap.size:=xY jW.vb jW.hb Dd;have n3:w.heap.size≠w3.heap.size:=xY jW.ob jW.hb Dd;have x7:(x.length:Int) < 7:=Oo;clear ja a6 ka j4 k4 q0 q6 q7 jX g5 hk c7 b9 e7 j0;generalize z8 pre=vn at *;generalize qh pre x.length=cn at *;have e9:(W.setCell ⟨w3.heap.size,x.length,none⟩ (.int .i64 ((cn:Int)+1))).heap.size=W.heap.size:=by simp[World.setCell]
     have r1:=I.out.rb.cell;have r2:=I.out.rb.frozen;have v1:=I.out.vb.cell;have v2:=I.out.vb.frozen;have o1:=I.out.ob.cell;have r9:w.heap.size < W.heap.size:=jW.ob.lt;have p1:=jW.rb.cell;have p2:=jW.vb.cell;have p3:=jW.ob.cell;have p4:=jW.rb.frozen;have p5:=jW.vb.frozen;by_cases o5:10000 < cn+1
     ·have b1:(10000:Int) < (cn:Int)+1:=Oo;obtain⟨jr,kr⟩:=I.out.reset;rw[e9]at jr kr;obtain⟨jv,kv⟩:=jr.vis (-1);have HX:=hid (a8.out _ _ _ o5 jv ((c8.out.trans kr).trans kv));have q1:=(I.out.rb.alloc (.cells #[] 25)).cell;have q2:=(I.out.rb.alloc (.cells #[] 25)).frozen;have q3:=jr.vb.cell;have q4:=jr.vb.frozen;clear jr kr jv kv a4 a8 e8 m2 g8 g9 I c8;gi_wp2
      exact HX.out
     ·have b1:¬((10000:Int) < (cn:Int)+1):=Oo;have o6:Hid (g≠w.heap.size+1+1+1):=hid k0;have k5:Hid ((Value.slice (some ⟨g,0,none⟩) x.length c).ownBlock≠some (w.heap.size+1+1+1)):=hid λe=>k0 (by simpa[Value.ownBlock]using e);by_cases e0:0 < x.length
      ·have i1:(0:Int) < (x.length:Int):=Oo;by_cases c9:x.length=no
       ·subst c9;obtain⟨jv,kv⟩:=I.out.vis ((vn:Int)+1);have e4:((W.setCell ⟨w3.heap.size,x.length,none⟩ (.int .i64 ((cn:Int)+1))).setCell ⟨w.heap.size+1+1+1,0,none⟩ (.int .i64 ((vn:Int)+1))).heap.size=W.heap.size:=by simp[World.setCell]
        have k7:=hid (qA e8.out λq hq=>bE (W.setCell ⟨w3.heap.size,x.length,none⟩ (.int .i64 ((cn:Int)+1))) ⟨w.heap.size+1+1+1,0,none⟩ (.int .i64 ((vn:Int)+1)) _ λe=>o6.out (by have:g=q:=(by simpa[Value.ownBlock]using hq);exact this.trans e));have t1:=jv.rb.cell;have t2:=jv.rb.frozen;have t3:=jv.ob.cell;have a5:((z8 (pre++[x]):Nat):Int)=(vn:Int)+1:=by rw[g8.out,if_pos e0];omega
        have U:=g9.out;rw[if_pos rfl]at U;have h9:=hid jv;have m3:=hid (c8.out.trans kv);have i0:=hid e4;have m4:=hid a5;have i3:=hid U;clear a5 U e9 e4 jv kv
        gi_wp2_with (first
         |(gi_at_builtin;refine ye _ rfl _ _ 24 rfl (w.heap.size+1) 25 iS (.slice none 0 0) 1 24 Tryz.underlying24 hj n9 o2 o3 rfl Dd vr _ us rfl (h9.out.rq.own.alloc _) ⟨W.heap.size,0,none⟩ 1 1 [.slice (some ⟨g,0,none⟩) x.length c] rfl rfl (by rw[<-i0.out];exact qH _ _ _) (λu hu=>by simp at hu;subst hu;rfl) Dd (by unfold maxLen;omega) Oo (by rw[World.size_alloc,i0.out];omega) ?_;intro g6 q9 w6 d8 a9 i4;obtain⟨r6,j6,k6⟩:=h9.out.push k7.out m2.out k5.out d8 a9 i4;have u1:=r6.cell;have u2:=r6.frozen)
         |gi_in)
        exact a4.out _ _ _ Oo (by rw[m4.out,i3.out];exact j6) (m3.out.trans k6)
       ·have i2:¬((x.length:Int)=(no:Int)):=Oo;obtain⟨jv,kv⟩:=I.out.vis ((vn:Int)+1);have e4:((W.setCell ⟨w3.heap.size,x.length,none⟩ (.int .i64 ((cn:Int)+1))).setCell ⟨w.heap.size+1+1+1,0,none⟩ (.int .i64 ((vn:Int)+1))).heap.size=W.heap.size:=by simp[World.setCell]
        have k7:=hid (qA e8.out λq hq=>bE (W.setCell ⟨w3.heap.size,x.length,none⟩ (.int .i64 ((cn:Int)+1))) ⟨w.heap.size+1+1+1,0,none⟩ (.int .i64 ((vn:Int)+1)) _ λe=>o6.out (by have:g=q:=(by simpa[Value.ownBlock]using hq);exact this.trans e));have t1:=jv.rb.cell;have t2:=jv.rb.frozen;have t3:=jv.ob.cell;have a5:((z8 (pre++[x]):Nat):Int)=(vn:Int)+1:=by rw[g8.out,if_pos e0];omega
        have U:=g9.out;rw[if_neg c9,List.append_nil]at U;have HF:=hid (a4.out _ _ _ Oo (by rw[a5,U];exact jv) (c8.out.trans kv));clear a5 U e9 e4 jv kv a4 a8 I c8 e8;gi_wp2
        exact HF.out
      ·have i1:¬((0:Int) < (x.length:Int)):=Oo;by_cases c9:x.length=no
       ·subst c9;have t1:=I.out.rb.cell;have t2:=I.out.rb.frozen;have t3:=I.out.ob.cell;have a5:((z8 (pre++[x]):Nat):Int)=(vn:Int):=by rw[g8.out,if_neg e0];omega
        have U:=g9.out;rw[if_pos rfl]at U;have h9:=hid I.out;have m3:=hid c8.out;have i0:=hid e9;have m4:=hid a5;have i3:=hid U;clear a5 U e9
        gi_wp2_with (first
         |(gi_at_builtin;refine ye _ rfl _ _ 24 rfl (w.heap.size+1) 25 iS (.slice none 0 0) 1 24 Tryz.underlying24 hj n9 o2 o3 rfl Dd vr _ us rfl (h9.out.rq.own.alloc _) ⟨W.heap.size,0,none⟩ 1 1 [.slice (some ⟨g,0,none⟩) x.length c] rfl rfl (by rw[<-i0.out];exact qH _ _ _) (λu hu=>by simp at hu;subst hu;rfl) Dd (by unfold maxLen;omega) Oo (by rw[World.size_alloc,i0.out];omega) ?_;intro g6 q9 w6 d8 a9 i4;obtain⟨r6,j6,k6⟩:=h9.out.push e8.out m2.out k5.out d8 a9 i4;have u1:=r6.cell;have u2:=r6.frozen)
         |gi_in)
        exact a4.out _ _ _ Oo (by rw[m4.out,i3.out];exact j6) (m3.out.trans k6)
       ·have i2:¬((x.length:Int)=(no:Int)):=Oo;have t1:=I.out.rb.cell;have t2:=I.out.rb.frozen;have t3:=I.out.ob.cell;have a5:((z8 (pre++[x]):Nat):Int)=(vn:Int):=by rw[g8.out,if_neg e0];omega
        have U:=g9.out;rw[if_neg c9,List.append_nil]at U;have HF:=hid (a4.out _ _ _ Oo (by rw[a5,U];exact I.out) c8.out);clear a5 U e9 a4 a8 I c8 e8;gi_wp2
        exact HF.out
    case done=>
     intro D W hD hI hK;rw[b9]at hI;obtain⟨vr,us,j,hc⟩:=hI;obtain⟨e1,e2⟩:=l8.out hc
     have HF:Hid (∃v us,Ending.returned (.tuple #[vr,.int .i64 ((z8 j1:Nat):Int)])=.returned (.tuple #[v,.int .i64 VJ])/\RQ (W.drew.putObj D (.deferred none)) w.heap.size v us RJ/\Bl w (W.drew.putObj D (.deferred none))):=hid (by
      have hp:=(KT.of_below (bM _ _).drew (bK _):KT W.heap.size W W.drew);have m5:=KT.put (X:=W.drew) (B:=w.heap.size) (.deferred none) Oo hK rfl;rw[e1,e2];have j2:=(j.kt hp (by have:=j.ob.lt;omega)).kt m5 (bK _);exact⟨vr,us,rfl,j2.rq.base (Nat.le_succ _),j2.bel⟩)
     have c1:=j.rb.cell;have c2:=j.vb.cell;clear e1 e2 hc j l8 l9 b9 e7 j0;generalize z8 j1=vt at *;simp only[Exit.inBlock,Exit.then];go_upto_region 15 with fail
     have o7:Tryz.prog.follows .mixedOrders=true:=by kernel_rfl
     go_region_law fail
     all_goals go_wp2_with fail
     all_goals exact⟨Ss,Or.inl ⟨D,_,rfl,run_takeDeferred hK,_,by simp[results,Tryz.results9,go_sem],HF.out⟩⟩
    case stop=>
     intro D c W hD hI hK;rw[e7]at hI;obtain⟨rfl,⟨i,M,V⟩,vr,cc,j⟩:=hI;obtain⟨e1,e2⟩:=l9.out i M V
     have HF:Hid (∃v us,Ending.returned (.tuple #[vr,.int .i64 (-1)])=.returned (.tuple #[v,.int .i64 VJ])/\RQ (W.drew.putObj D (.deferred none)) w.heap.size v us RJ/\Bl w (W.drew.putObj D (.deferred none))):=hid (by
      have hp:=(KT.of_below (bM _ _).drew (bK _):KT W.heap.size W W.drew);have m5:=KT.put (X:=W.drew) (B:=w.heap.size) (.deferred none) Oo hK rfl;rw[e1,e2];have j2:=(j.kt hp (by have:=j.ob.lt;omega)).kt m5 (bK _);exact⟨vr,[],rfl,j2.rq.base (Nat.le_succ _),j2.bel⟩)
     have c1:=j.rb.cell;have c2:=j.vb.cell;clear e1 e2 j l8 l9 b9 e7 j0;gi_wp2
     go_upto_region 15 with fail
     have o7:Tryz.prog.follows .mixedOrders=true:=by kernel_rfl
     go_region_law fail
     all_goals go_wp2_with fail
     all_goals exact⟨Ss,Or.inl ⟨D,_,rfl,run_takeDeferred hK,_,by simp[results,Tryz.results9,go_sem],HF.out⟩⟩
 ·have q8:(8:Int) < (n:Int):=Oo;have l6:Hid (okJ tl o=false):=hid (by rw[O.out,decide_eq_false h8];rfl);obtain⟨k1,k2⟩:=b7.out W1 (bM _ _);clear O KO KA;go_wp2_with fail
  exact⟨_,by simp[results,Tryz.results9,go_sem],i5.out _ (bM _ _) l6.out⟩
end Go.Proofs.YtkaipapdlnojiaaGreat
