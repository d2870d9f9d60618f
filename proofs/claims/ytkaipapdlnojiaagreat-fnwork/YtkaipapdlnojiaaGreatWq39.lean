import Derived.Test.YtkaipapdlnojiaaGreatWq30
import Derived.Test.YtkaipapdlnojiaaGreatWq38
set_option maxHeartbeats 40000000
set_option maxRecDepth 1000000
namespace Go.Proofs.YtkaipapdlnojiaaGreat
open Go.RowKit
variable {l:List Int}{B c m n p q:Nat}{a:Option Addr}{K M O U V u0 u1 u2 u3 u4 u5 v z5:Value}{W w:World}
theorem Kc.bel{N g:Nat}{w':World}(h:Kc g w w')(I:N<=g)(K:N<=w.heap.size):Below N w w':=⟨h.os,h.tape,h.output,h.size,λb hb=>h.block b Oo Oo⟩
theorem qBP{cap:Nat}(hB:∀j,j < n->∃b o x,a=some ⟨b,o,none⟩/\W.cell? ⟨b,o+j,none⟩=some (.int .u8 x)/\0<=x/\x < 256):Rdr (W.alloc (.cells #[.slice a n cap,.int .i64 0,.int .i64 0] 45)) W.heap.size a n cap 0:=by
 refine⟨0,0,bK _,?_⟩;refine⟨Ss,Ss,Ss,Ss,Ss,λj O=>?_,Dd⟩;obtain⟨b,o,x,e,K,U⟩:=hB j O;have I:=bL W _ K;have M:b < W.heap.size:=I;exact⟨b,o,x,e,Oo,(((bM W.heap.size W).alloc (bK _) _).cell (p:=⟨b,o+j,none⟩) I).trans K,U⟩
def qFz(t:TbV):TbV:=⟨t.vs,t.rows.take 4,t.ws.take 4⟩
theorem TbG.cut{I:Nat}{t:TbV}(h:TbG l I t):TbG l I (qFz t):=
 ⟨h.vs,⟨h.rows.srt.sublist (List.take_sublist _ _),λr hr=>h.rows.len r (List.mem_of_mem_take hr),λr hr=>h.rows.val r (List.mem_of_mem_take hr),by have:=h.rows.few;show(t.rows.take 4).length<=9;rw[bZ];omega,by have:=h.rows.ws;show(t.ws.take 4).length=(t.rows.take 4).length;rw[bZ,bZ];have M:t.ws.length=t.rows.length:=this;omega,λx K=>h.rows.wt x (List.mem_of_mem_take K)⟩,λr hr=>h.lt r (List.mem_of_mem_take hr)⟩
theorem qDt(h:IS W (.slice a n c) l)(I:m<=l.length):IS W (.slice a m c) (l.take m):=by
 obtain⟨M,c',e,h⟩:=h;cases e
 refine⟨a,c,by rw[bZ,Nat.min_eq_left I],?_⟩;rcases h with h|⟨b,o,rfl,h⟩
 ·exact Or.inl (by rw[bZ];omega)
 ·refine Or.inr ⟨b,o,rfl,λj K=>?_⟩;rw[bZ]at K;rw[h j Oo,gD,gD,List.getElem?_take_of_lt Oo]
theorem qDu{l:List (List Int)}(h:ISS W (.slice a n c) l)(I:m<=l.length):ISS W (.slice a m c) (l.take m):=by
 obtain⟨O,c',e,h⟩:=h;cases e
 refine⟨a,c,by rw[bZ,Nat.min_eq_left I],?_⟩;rcases h with h|⟨b,o,rfl,h⟩
 ·exact Or.inl (by rw[bZ];omega)
 ·refine Or.inr ⟨b,o,rfl,λj K=>?_⟩;rw[bZ]at K;obtain⟨u,M,hi⟩:=h j Oo;refine⟨u,M,?_⟩;rw[gD,List.getElem?_take_of_lt Oo,<-gD];exact hi
structure PtG(q:Nat)(tl:List TbV):Prop where
 q2:2<=q
 q5:q<=5
 n0:0 < tl.length
 n7:tl.length<=7
 tb:∀t∈tl,TbG t.vs 3 t/\EdG q t.vs/\0 < t.vs.length
 cov:∀x:Nat,x < q->∃t∈tl,(x:Int)∈t.vs
def PtE(w:World)(e:Ending)(w':World):Prop:=∃q aT cT tl a0 n0 c0 a1 n1 c1 a2 n2 c2 a3 n3 c3 x y b0 m0 d0 b1 m1 d1 b2 m2 d2 b3 m3 d3 x' y',e=.returned (.tuple #[.int .i64 (q:Nat),.slice aT (tl:List TbV).length cT,.agg #[.slice a0 n0 c0,.slice a1 n1 c1,.slice a2 n2 c2,.slice a3 n3 c3,.int .i64 x,.int .i64 y],.agg #[.slice b0 m0 d0,.slice b1 m1 d1,.slice b2 m2 d2,.slice b3 m3 d3,.int .i64 x',.int .i64 y']])/\PtG q tl/\ITs w' (.slice aT tl.length cT) tl/\Bl w w'
theorem qE8{E:List (Value×List Int)}(h5:q<=5)(U:E.length<=7)(V:CovL E q)(K:∀u∈E,EdG q u.2):xw (q:Int) (E.map Prod.snd)=true:=by
 unfold xw;simp only[Bool.and_eq_true,decide_eq_true_eq,List.all_eq_true];refine⟨⟨⟨⟨Oo,Oo⟩,?_⟩,λl hl=>?_⟩,λv hv=>?_⟩
 ·unfold qj;rw[bA,dE,bY];refine⟨by rw[lM];exact U,λl hl=>?_⟩;obtain⟨u,I,rfl⟩:=List.mem_map.1 hl;exact yW (K u I).1 λx M=>by have:=(K u I).2 x M;omega
 ·obtain⟨u,I,rfl⟩:=List.mem_map.1 hl;unfold uf;rw[Bool.or_eq_true,dE,dE];by_cases e:u.2.length=0
  ·exact Or.inl e
  ·refine Or.inr ((K u I).2 _ ?_).2;rw[gD,bC Oo];exact gM _
 ·have O:v < q:=by have:=List.mem_range.1 hv;omega
  obtain⟨u,I,M⟩:=V v O;unfold xC;rw[List.any_eq_true];exact⟨u.2,List.mem_map_of_mem I,decide_eq_true M⟩
theorem PatL.iss{E:List (Value×List Int)}(h:PatL B w v E):ISS w v (E.map Prod.snd):=by
 rcases h.own.2 with ⟨rfl,K⟩|⟨g,cap,cur,rfl,-⟩
 ·exact⟨none,0,by rw[lM,K],Or.inl (by rw[lM];exact K)⟩
 ·refine⟨_,cap,by rw[lM],Or.inr ⟨g,0,rfl,λj I=>?_⟩⟩;rw[lM]at I;obtain⟨M,-,O⟩:=h.cell I;refine⟨_,by rw[Nat.zero_add];exact M,?_⟩
  have e:(E.map Prod.snd).getD j []=(E.getD j (.slice none 0 0,[])).2:=by
   rw[gD,gD,bN,bC I];rfl
  rw[e];exact O.is
def CtS(B:Nat)(w4 wx:World)(v:Value)(nT:Nat)(E:List (Value×List Int))(rs:List TbC):Prop:=rs.length=nT/\TLs wx B v rs/\(∀i,i < E.length->TbG (E.getD i (.slice none 0 0,[])).2 3 (rs.getD i qg).t/\CpV (rs.getD i qg).v1/\CpV (rs.getD i qg).v2)/\Below B w4 wx
theorem qDv{w4 wr:World}{M nT cT K U j:Nat}{a1 V:Option Addr}{E:List (Value×List Int)}{rs:List TbC}(hl:rs.length=nT)(hT:TLs wr B (.slice (some ⟨M,0,none⟩) nT cT) rs)(hG:∀i,i < E.length->TbG (E.getD i (.slice none 0 0,[])).2 3 (rs.getD i qg).t/\CpV (rs.getD i qg).v1/\CpV (rs.getD i qg).v2)(hb:Below B w4 wr)(a3:B<=M)(hj:j < rs.length)(a7:j < E.length)(h4:4 < (rs.getD j qg).t.rows.length)(e1:(rs.getD j qg).v1=.slice a1 (rs.getD j qg).t.rows.length K)(e2:(rs.getD j qg).v2=.slice V (rs.getD j qg).t.ws.length U)(hw:(rs.getD j qg).t.ws.length=(rs.getD j qg).t.rows.length)(c1:4<=K)(c2:4<=U):
 ∃a4,CtS B w4 ((wr.setCell ⟨M,j*3+1,none⟩ (.slice a1 4 K)).setCell ⟨M,j*3+2,none⟩ (.slice V 4 U)) (.slice (some ⟨M,0,none⟩) nT cT) nT E a4:=by
 subst hl;obtain⟨r,hr⟩:∃r,r=rs.getD j qg:=⟨_,rfl⟩;rw[<-hr]at h4 e1 e2 hw;have O:∀(l:List TbC) (y:TbC),j < l.length->(l.set j y).getD j qg=y:=λl y hl=>by rw[gD,List.getElem?_set_self hl];rfl
 have h1:=hT.put hj (q:=1) Oo (u:=.slice a1 4 K) (r':=⟨r.v0,.slice a1 4 K,r.v2,⟨r.t.vs,r.t.rows.take 4,r.t.ws⟩⟩) (by rw[<-hr];rfl) (λX I=>by
  rw[<-hr]at I;have h9:=I.rows;rw[e1]at h9;exact⟨I.vs,qDu h9 Oo,I.ws⟩)
 generalize hr1:(⟨r.v0,.slice a1 4 K,r.v2,⟨r.t.vs,r.t.rows.take 4,r.t.ws⟩⟩:TbC)=r1 at h1;have a5:j < (rs.set j r1).length:=by rw[List.length_set];exact hj
 have a6:TLs (wr.setCell ⟨M,j*3+1,none⟩ (.slice a1 4 K)) B (.slice (some ⟨M,0,none⟩) (rs.set j r1).length cT) (rs.set j r1):=by rw[List.length_set];exact h1
 have h2:=a6.put a5 (q:=2) Oo (u:=.slice V 4 U) (r':=⟨r.v0,.slice a1 4 K,.slice V 4 U,qFz r.t⟩) (by rw[O _ _ hj,<-hr1];rfl) (λX I=>by
  rw[O _ _ hj,<-hr1]at I;have h9:=I.ws;have h8:IS X (.slice V r.t.ws.length U) r.t.ws:=by rw[<-e2];exact h9
  exact⟨I.vs,I.rows,qDt h8 Oo⟩)
 rw[List.set_set,List.length_set]at h2;refine⟨_,by rw[List.length_set],h2,λi hi=>?_,(hb.setCell (by exact a3) _).setCell (by exact a3) _⟩;by_cases e:i=j
 ·subst e;rw[O _ _ hj];have:=(hG i hi).1;rw[<-hr]at this;exact⟨this.cut,(λ_ _ _ e=>by cases e;omega),(λ_ _ _ e=>by cases e;omega)⟩
 ·have e2:∀y:TbC,(rs.set j y).getD i qg=rs.getD i qg:=λy=>by rw[gD,List.getElem?_set_ne (λh=>e h.symm),<-gD]
  rw[e2];exact hG i hi
theorem qF0(h:W.heap[p]?=some (.cells #[K,M,O,U,V,z5] 30 (0,0))):((((((W.setCell ⟨p,0,none⟩ u0).setCell ⟨p,1,none⟩ u1).setCell ⟨p,2,none⟩ u2).setCell ⟨p,3,none⟩ u3).setCell ⟨p,4,none⟩ u4).setCell ⟨p,5,none⟩ u5).heap[p]?=some (.cells #[u0,u1,u2,u3,u4,u5] 30 (0,0)):=by
 have I:∀{X:World} {q:Nat} {u:Value} {A:Array Value},X.heap[p]?=some (.cells A 30 (0,0))->(X.setCell ⟨p,q,none⟩ u).heap[p]?=some (.cells (A.setIfInBounds q u) 30 (0,0)):=λ{X q u A} hX=>bJ _ _ _ _ _ _ hX;exact I (I (I (I (I (I h)))))
theorem s6b(hp:B<=p)(h:Below B w W):Below B w ((((((W.setCell ⟨p,0,none⟩ u0).setCell ⟨p,1,none⟩ u1).setCell ⟨p,2,none⟩ u2).setCell ⟨p,3,none⟩ u3).setCell ⟨p,4,none⟩ u4).setCell ⟨p,5,none⟩ u5):=by
 have hb:∀{X:World} {q:Nat} {u:Value},Below B w X->Below B w (X.setCell ⟨p,q,none⟩ u):=λ{X q u} hX=>hX.setCell (by exact hp) _;exact hb (hb (hb (hb (hb (hb h)))))
theorem TLs.low{W':World}{rl:List TbC}(h:TLs W B v rl)(hs:W'.heap.size=W.heap.size)(I:∀c,B<=c->W'.heap[c]?=W.heap[c]?):TLs W' B v rl:=
 ⟨qA h.own λc M=>I c (h.own.lt c M).1,λr hr X O=>h.el r hr X λc K V U=>(O c K Oo U).trans (I c K)⟩
theorem qF1{E:List (Value×List Int)}{rs:List TbC}(U:2<=q)(V:q<=5)(hl:rs.length=E.length)(h0:0 < E.length)(h7:E.length<=7)(hP:PatL B w v E)(hG:∀u∈E,EdG q u.2)(hC:CovL E q)(M:∀i,i < E.length->TbG (E.getD i (.slice none 0 0,[])).2 3 (rs.getD i qg).t):PtG q (rs.map TbC.t):=by
 have hm:∀i,i < E.length->E.getD i (.slice none 0 0,[])∈E:=λi hi=>by rw[gD,bC hi];exact gM hi
 refine⟨U,V,by rw[lM];omega,by rw[lM];omega,λt ht=>?_,λx hx=>?_⟩
 ·obtain⟨r,hr,rfl⟩:=List.mem_map.1 ht;obtain⟨i,hi,rfl⟩:=gO hr;have I:=M i Oo;rw[gD (l:=rs),bC hi,Option.getD_some]at I;have O:=hm i Oo;rw[I.vs];exact⟨⟨I.vs,I.rows,I.lt⟩,hG _ O,(hP.rows _ O).pos⟩
 ·obtain⟨u,hu,K⟩:=hC x hx;obtain⟨i,hi,rfl⟩:=gO hu;have I:=(M i hi).vs;rw[gD (l:=E),bC hi,Option.getD_some]at I;refine⟨(rs.getD i qg).t,List.mem_map_of_mem (by rw[gD,bC Oo];exact gM _),?_⟩;rw[I];exact K
theorem s6o(W:World){b:Nat}(h:b≠p):((((((W.setCell ⟨p,0,none⟩ u0).setCell ⟨p,1,none⟩ u1).setCell ⟨p,2,none⟩ u2).setCell ⟨p,3,none⟩ u3).setCell ⟨p,4,none⟩ u4).setCell ⟨p,5,none⟩ u5).heap[b]?=W.heap[b]?:=by
 iterate 6 rw[bE _ _ _ _ (show b≠p from h)]
theorem qGH{C:Nat}{rl:List TbC}{y0 y1 y2 y3 y4 y5 v0 v1 v2 v3 v4 v5:Value}(h:W.heap[p]?=some (.cells #[K,M,O,U,V,z5] 30 (0,0)))(h':W.heap[p+1]?=some (.cells #[y0,y1,y2,y3,y4,y5] 30 (0,0)))(hT:TLs W B v rl)(hB:p+1 < B)(I:C<=p)(hb:Below C w W){X:World}(hX:X=((((((((((((W.setCell ⟨p,0,none⟩ u0).setCell ⟨p,1,none⟩ u1).setCell ⟨p,2,none⟩ u2).setCell ⟨p,3,none⟩ u3).setCell ⟨p,4,none⟩ u4).setCell ⟨p,5,none⟩ u5).setCell ⟨p+1,0,none⟩ v0).setCell ⟨p+1,1,none⟩ v1).setCell ⟨p+1,2,none⟩ v2).setCell ⟨p+1,3,none⟩ v3).setCell ⟨p+1,4,none⟩ v4).setCell ⟨p+1,5,none⟩ v5)):X.heap[p]?=some (.cells #[u0,u1,u2,u3,u4,u5] 30 (0,0))/\X.heap[p+1]?=some (.cells #[v0,v1,v2,v3,v4,v5] 30 (0,0))/\TLs X B v rl/\Below C w X:=by
 subst hX;exact⟨(s6o _ Oo).trans (qF0 h),qF0 ((s6o W Oo).trans h'),hT.low (by simp[World.setCell]) λc hc=>(s6o _ Oo).trans (s6o _ Oo),s6b (Nat.le_succ_of_le I) (s6b I hb)⟩
theorem Vf(l1:DpC)(w:World)(a:Option Addr)(n cap:Nat)(hn:n<=1048576)(hB:∀j,j < n->∃b o x,a=some ⟨b,o,none⟩/\w.cell? ⟨b,o+j,none⟩=some (.int .u8 x)/\0<=x/\x < 256):
 Cl 4 #[.slice a n cap] w (PtE w):=by
 obtain⟨K,V⟩:∃K,K=((w.alloc (.cells #[.slice none 0 0,.slice none 0 0,.slice none 0 0,.slice none 0 0,.int .i64 0,.int .i64 0] 30)).alloc (.cells #[.slice none 0 0,.slice none 0 0,.slice none 0 0,.slice none 0 0,.int .i64 0,.int .i64 0] 30)):=⟨_,rfl⟩;have d7:Bl w K:=by rw[V];exact((bM _ _).alloc (bK _) _).alloc Ss _
 have a8:K.heap.size=w.heap.size+2:=by rw[V];simp
 have h4:K.heap[w.heap.size]?=some (.cells #[.slice none 0 0,.slice none 0 0,.slice none 0 0,.slice none 0 0,.int .i64 0,.int .i64 0] 30 (0,0)):=by rw[V,Below.heap_alloc _ _ _ Ss];exact heap_alloc_new _ _
 have h5:K.heap[w.heap.size+1]?=some (.cells #[.slice none 0 0,.slice none 0 0,.slice none 0 0,.slice none 0 0,.int .i64 0,.int .i64 0] 30 (0,0)):=by
  have:=heap_alloc_new (w.alloc (.cells #[.slice none 0 0,.slice none 0 0,.slice none 0 0,.slice none 0 0,.int .i64 0,.int .i64 0] 30)) (.cells #[.slice none 0 0,.slice none 0 0,.slice none 0 0,.slice none 0 0,.int .i64 0,.int .i64 0] 30);rw[World.size_alloc]at this;rw[V];exact this
 have f8:=qBP (cap:=cap) (W:=K) (n:=n) (a:=a) λj hj=>by
  obtain⟨b,o,x,e,hc,hx⟩:=hB j hj;exact⟨b,o,x,e,(d7.cell (p:=⟨b,o+j,none⟩) (bL w _ hc)).trans hc,hx⟩
 have K1:=hid (QY _ K.heap.size a n cap 0 f8 hn Oo);have f9:=hid d7;have g6:=hid a8;have H4:=hid h4;have H5:=hid h5;clear hB d7 a8 h4 h5 f8;go_enter Tryz.func4,Tryz.ntmps4
 go_upto_region 1 with fail
 rw[<-V];clear V;go_upto_region 3 with (first|(go_at_call 12;refine K1.out.mono ?_;rintro e w3 ⟨q,v,E,rfl,l2,g7,a9,d8,d6,I⟩)|fail)
 obtain⟨W2,a4⟩:∃W2,W2=K.alloc (.cells #[.slice a n cap,.int .i64 0,.int .i64 0] 45):=⟨_,rfl⟩;rw[<-a4]at I;have l3:W2.heap.size=K.heap.size+1:=by rw[a4];simp
 have a8:=g6.out;have g8:W2.heap[w.heap.size]?=K.heap[w.heap.size]?:=by rw[a4];exact Below.heap_alloc _ _ _ Oo
 have g9:W2.heap[w.heap.size+1]?=K.heap[w.heap.size+1]?:=by rw[a4];exact Below.heap_alloc _ _ _ Oo
 have h6:Hid (Bl w W2):=hid (by rw[a4];exact f9.out.alloc Oo _);have l4:=hid I.kc;have l5:=hid (zu (g8.trans H4.out) I.kc Oo);have l6:=hid (zu (g9.trans H5.out) I.kc Oo);have d9:=hid I.pat;have h8:=hid I.gd;have h9:=hid d6;have o2:=I.kc.size;have l7:Hid (∀b o,a=some ⟨b,o,none⟩->0 < n->b < w3.heap.size):=hid λb o e h0=>by have:=I.bl b o e h0;omega
 have K3:=hid (Za w3 K.heap.size a n cap 1000 W2.heap.size I.cur hn Oo v E I.pat Oo a9 d8);obtain⟨gE,cE,ev,-,-⟩:=I.pat.form a9;subst ev;have o6:w.heap.size+1 < K.heap.size:=Oo;have l8:K.heap.size < W2.heap.size:=Oo;clear a4 I d6 g8 g9 K1 f9 g6 H4 H5 a8 l3;generalize K.heap.size=g at *;go_upto_region 4 with (first|(go_at_call 13;refine K3.out.mono ?_;rintro e w4 ⟨v4,rl,rfl,e0,i0,i2,e3,i3⟩)|fail)
 obtain⟨gT,cT,e4,l9,-⟩:=e0.form Oo;subst e4;have m4:0 < rl.length:=Oo;have b7:=hid i0;have e5:=hid e0;have i4:=hid i2;have m5:=hid e3;have m6:=hid i3;have o7:=e3.size;have h7:rl.length<=7:=Oo;clear e0 i2 e3 i3 K3 i0;obtain⟨nT,e6⟩:∃nT,nT=rl.length:=⟨_,rfl⟩;rw[<-e6]at b7 e5 m4 h7 ⊢;have i5:=hid e6;clear e6;go_wp2_with fail
 go_loopg [10,25] nT (λgk _ t wx=>∃(j:Nat) (m7:List TbC),t=.int .i64 j/\j<=nT/\gk=nT - j/\Hid (CtS w3.heap.size w4 wx (.slice (some ⟨gT,0,none⟩) nT cT) nT E m7))
 case atStart=>exact⟨0,rl,rfl,nZ _,rfl,hid ⟨i5.out.symm,e5.out,i4.out,bM _ _⟩⟩
 case round=>
  clear e5 i4 i5;obtain⟨j,rs,rfl,hj,o8,HI⟩:=hrel;obtain⟨i6,hT,hG,hb⟩:=HI.out;have M:=hid i6;have HT:=hid hT;have HG:=hid hG;have HB:=hid hb;have o9:=hb.size;clear HI i6 hT hG hb;by_cases p6:j < nT
  ·have i1:(j:Int) < (nT:Int):=Oo;have i7:j < rs.length:=by have:=M.out;omega
   obtain⟨-,k1,k2,kf,hit⟩:=(show TLs wr w3.heap.size (.slice (some ⟨gT,0,none⟩) rs.length cT) rs by rw[M.out];exact HT.out).cells i7;have kf1:=kf (j*3+1);have kf2:=kf (j*3+2);obtain⟨e7,e8,b9⟩:=HG.out j (by have:=b7.out;omega);obtain⟨-,hr,hw⟩:=hit;obtain⟨a1,m1,e1,-⟩:=id hr;obtain⟨U,m2,e2,-⟩:=id hw;rw[e1]at k1 e8;rw[e2]at k2 b9;have hle:=e7.rows.ws;have e9:(rs.getD j qg).t.ws.length=(rs.getD j qg).t.rows.length:=hle;rw[e9]at k2 b9 e2;have o3:=e8 _ _ _ rfl;have o4:=b9 _ _ _ rfl;have HR:=hid hr;have HW:=hid hw;have HE:=hid (And.intro e1 e2);have f7:=hid e7;have a6:=hid e9;clear hr hw e1 e2 hle e9 e8 b9 e7 kf;generalize hrw:(rs.getD j qg).t.rows.length=rw at *;have a5:=hid hrw;clear hrw;by_cases h4:4 < nT
   ·have t4:(4:Int) < (nT:Int):=Oo;by_cases h5:4 < rw
    ·have t5:(4:Int) < (rw:Int):=Oo;have t6:(4:Int)<=(m1:Int):=Oo;have t7:(4:Int)<=(m2:Int):=Oo;have HZ:=hid (qDv M.out HT.out HG.out HB.out l9 i7 (by have:=b7.out;omega) (by have:=a5.out;omega) (by rw[a5.out];exact HE.out.1) (by rw[a6.out];exact HE.out.2) (a6.out.trans a5.out.symm) Oo Oo);clear HR HW HE f7 a6 a5 HG HT HB;go_wp2_with fail
     obtain⟨m8,i8⟩:=HZ.out;go_roundg (nT - (j+1))
     case measure=>omega
     case rel=>exact⟨j+1,m8,Gg,Oo,rfl,hid i8⟩
    ·have t5:¬(4:Int) < (rw:Int):=Oo;clear HR HW HE f7 a6 a5;go_wp2_with fail
     go_roundg (nT - (j+1))
     case measure=>omega
     case rel=>exact⟨j+1,rs,Gg,Oo,rfl,hid ⟨M.out,HT.out,HG.out,HB.out⟩⟩
   ·have t4:¬(4:Int) < (nT:Int):=Oo;clear HR HW HE f7 a6 a5;go_wp2_with fail
    go_roundg (nT - (j+1))
    case measure=>omega
    case rel=>exact⟨j+1,rs,Gg,Oo,rfl,hid ⟨M.out,HT.out,HG.out,HB.out⟩⟩
  ·obtain rfl:j=nT:=Oo;have i1:¬(j:Int) < (j:Int):=Oo;have a7:(E.map Prod.snd).length=E.length:=by rw[lM]
   have i9:Kc g w3 wr:=m5.out.up HB.out;have j0:Hid (Rdr wr g a n cap 2000):=hid (m6.out.above HB.out Oo (l7.out))
   have j1:zS (E.map Prod.snd):=⟨by rw[a7];omega,λi=>by
    rw[gD,bN];cases e:E[i]? with
    |none=>exact nZ _
    |some u=>have:=(d9.out.rows u (List.mem_of_getElem? e)).few;show u.2.length<=_;omega⟩
   have j2:=qE8 g7 d8 h9.out h8.out
   have KD:Hid (∀(W:World) (k:Nat),Kc g w3 W->Rdr W g a n cap k->k<=100000->Cl 14 #[.pointer (some ⟨g,0,none⟩),.int .i64 q,.slice (some ⟨gE,0,none⟩) E.length cE] W (DpE W g a n cap k)):=hid λW k hW hR hk=>by
    have:=l1 W g a n cap k q hR hn hk (some ⟨gE,0,none⟩) cE (E.map Prod.snd) (λX hX=>by rw[a7];exact(d9.out.kc (hW.trans hX) l8).iss) j1 j2 Oo (by rw[a7];exact a9);rw[a7]at this;exact this
   have c7:=hid i9;clear i9 a7 j1 j2;go_upto_region 12 with (first|(go_at_call 14;refine(KD.out wr 2000 c7.out j0.out Oo).mono ?_;rintro e w6 ⟨⟨a0,n0,c0,a1,n1,c1,U,n2,c2,a3,n3,c3,x,y,rfl⟩,c8,j3⟩)|fail)
   have j4:Kc g w3 (w6.alloc (.cells #[.slice a0 n0 c0,.slice a1 n1 c1,.slice U n2 c2,.slice a3 n3 c3,.int .i64 x,.int .i64 y] 30)):=(c7.out.trans c8).alW _;have j5:Rdr (w6.alloc (.cells #[.slice a0 n0 c0,.slice a1 n1 c1,.slice U n2 c2,.slice a3 n3 c3,.int .i64 x,.int .i64 y] 30)) g a n cap 2100:=j3.below ((bM _ _).alloc (bK _) _);have j6:=heap_alloc_new w6 (.cells #[.slice a0 n0 c0,.slice a1 n1 c1,.slice U n2 c2,.slice a3 n3 c3,.int .i64 x,.int .i64 y] 30);have m9:=hid ((HT.out.kc c8 Oo).kc ((Kc.refl g w6).alW (.cells #[.slice a0 n0 c0,.slice a1 n1 c1,.slice U n2 c2,.slice a3 n3 c3,.int .i64 x,.int .i64 y] 30)) Oo);have p7:w3.heap.size<=w6.heap.size:=(c7.out.trans c8).size;have k0:=hid j5;have c9:=hid j4;have k4:=hid j6;clear c8 j3 j5 j0 c7 HT j4 j6;generalize w6.alloc (.cells #[.slice a0 n0 c0,.slice a1 n1 c1,.slice U n2 c2,.slice a3 n3 c3,.int .i64 x,.int .i64 y] 30)=w7 at *;generalize w6.heap.size=pb at *
   have k5:Hid (∀W:World,W.heap[pb]?=some (.cells #[.slice a0 n0 c0,.slice a1 n1 c1,.slice U n2 c2,.slice a3 n3 c3,.int .i64 x,.int .i64 y] 30 (0,0))->W.cell? ⟨pb,0,none⟩=some (.slice a0 n0 c0)/\W.cell? ⟨pb,1,none⟩=some (.slice a1 n1 c1)/\W.cell? ⟨pb,2,none⟩=some (.slice U n2 c2)/\W.cell? ⟨pb,3,none⟩=some (.slice a3 n3 c3)/\W.cell? ⟨pb,4,none⟩=some (.int .i64 x)/\W.cell? ⟨pb,5,none⟩=some (.int .i64 y)):=hid λW hW=>by
    obtain⟨h0,h1,h2,h3,h4,h5,-⟩:=bxC hW;exact⟨h0,h1,h2,h3,h4,h5⟩
   have k7:Hid (∀W,Kc g w7 W->W.heap[pb]?=some (.cells #[.slice a0 n0 c0,.slice a1 n1 c1,.slice U n2 c2,.slice a3 n3 c3,.int .i64 x,.int .i64 y] 30 (0,0))):=hid λW hW=>zu k4.out hW Oo;have k8:Hid (∀W,Kc g w7 W->W.heap[w.heap.size]?=some (.cells #[.slice none 0 0,.slice none 0 0,.slice none 0 0,.slice none 0 0,.int .i64 0,.int .i64 0] 30 (0,0))):=hid λW hW=>zu (zu l5.out c9.out Oo) hW Oo;have k9:Hid (∀W,Kc g w7 W->W.heap[w.heap.size+1]?=some (.cells #[.slice none 0 0,.slice none 0 0,.slice none 0 0,.slice none 0 0,.int .i64 0,.int .i64 0] 30 (0,0))):=hid λW hW=>zu (zu l6.out c9.out Oo) hW Oo;have n4:Hid (Cl 14 #[.pointer (some ⟨g,0,none⟩),.int .i64 q,.slice (some ⟨gE,0,none⟩) E.length cE] w7.drew λe w'=>(∃a0 n0 c0 a1 n1 c1 U n2 c2 a3 n3 c3 x y,e=.returned (.agg #[.slice a0 n0 c0,.slice a1 n1 c1,.slice U n2 c2,.slice a3 n3 c3,.int .i64 x,.int .i64 y]))/\Kc g w7 w'):=hid ((KD.out w7.drew 2100 c9.out.dwW (k0.out.below (bM _ _).drew) Oo).mono λe w' ⟨h1,h2,_⟩=>⟨h1,(Kc.refl _ _).dwW.trans h2⟩);have p8:pb≠w.heap.size:=Oo;have p9:pb≠w.heap.size+1:=Oo;clear KD k0 k4;obtain⟨s0,s1,s2,s3,s4,s5⟩:=k5.out w7 (k7.out _ (Kc.refl _ _));have o5:Tryz.prog.follows .mixedOrders=true:=by kernel_rfl
   have q6:Tryz.prog.follows .lateStores=true:=by kernel_rfl
   have q7:Tryz.prog.follows .lateStoresUnsure=true:=by kernel_rfl
   go_region_law (first|(go_simp;go_at_call 14;refine n4.out.mono ?_;rintro e w8 ⟨⟨b0,m0,d0,b1,m1,d1,b2,m2,d2,b3,m3,d3,x',y',rfl⟩,O⟩;obtain⟨q0,q1,q2,q3,q4,q5,f0,f1,f2,f3,f4,f5⟩:=bxC (k8.out _ O);obtain⟨r0,r1,r2,r3,r4,r5,g0,g1,g2,g3,g4,g5⟩:=bxC (k9.out _ O);obtain⟨p0,p1,p2,p3,p4,p5⟩:=k5.out _ (k7.out _ O))|fail)
   all_goals go_wp2_with fail
   all_goals
    obtain⟨n5,n6,n8,n9⟩:=qGH (u0:=.slice a0 n0 c0) (u1:=.slice a1 n1 c1) (u2:=.slice U n2 c2) (u3:=.slice a3 n3 c3) (u4:=.int .i64 x) (u5:=.int .i64 y) (v0:=.slice b0 m0 d0) (v1:=.slice b1 m1 d1) (v2:=.slice b2 m2 d2) (v3:=.slice b3 m3 d3) (v4:=.int .i64 x') (v5:=.int .i64 y') (k8.out _ O) (k9.out _ O) (m9.out.kc O Oo) Oo (bK _) (h6.out.trans (((l4.out.trans c9.out).trans O).bel Oo h6.out.size)) rfl
    clear q0 q1 q2 q3 q4 q5 f0 f1 f2 f3 f4 f5 r0 r1 r2 r3 r4 r5 g0 g1 g2 g3 g4 g5 p0 p1 p2 p3 p4 p5 s0 s1 s2 s3 s4 s5
    generalize (((((((((((w8.setCell ⟨w.heap.size,0,none⟩ (.slice a0 n0 c0)).setCell ⟨w.heap.size,1,none⟩ (.slice a1 n1 c1)).setCell ⟨w.heap.size,2,none⟩ (.slice U n2 c2)).setCell ⟨w.heap.size,3,none⟩ (.slice a3 n3 c3)).setCell ⟨w.heap.size,4,none⟩ (.int .i64 x)).setCell ⟨w.heap.size,5,none⟩ (.int .i64 y)).setCell ⟨w.heap.size+1,0,none⟩ (.slice b0 m0 d0)).setCell ⟨w.heap.size+1,1,none⟩ (.slice b1 m1 d1)).setCell ⟨w.heap.size+1,2,none⟩ (.slice b2 m2 d2)).setCell ⟨w.heap.size+1,3,none⟩ (.slice b3 m3 d3)).setCell ⟨w.heap.size+1,4,none⟩ (.int .i64 x')).setCell ⟨w.heap.size+1,5,none⟩ (.int .i64 y')=WF at *
    obtain⟨q0,q1,q2,q3,q4,q5,-⟩:=bxC n5
    obtain⟨r0,r1,r2,r3,r4,r5,-⟩:=bxC n6
    refine bodyPost_ret (v:=.tuple #[.int .i64 (q:Nat),.slice (some ⟨gT,0,none⟩) j cT,.agg #[.slice a0 n0 c0,.slice a1 n1 c1,.slice U n2 c2,.slice a3 n3 c3,.int .i64 x,.int .i64 y],.agg #[.slice b0 m0 d0,.slice b1 m1 d1,.slice b2 m2 d2,.slice b3 m3 d3,.int .i64 x',.int .i64 y']]) (by simp only[results,Tryz.results4];simp[go_sem,q0,q1,q2,q3,q4,q5,r0,r1,r2,r3,r4,r5]) rfl ?_
    have l0:(rs.map TbC.t).length=j:=by rw[lM,M.out]
    refine⟨q,some ⟨gT,0,none⟩,cT,rs.map TbC.t,_,_,_,_,_,_,_,_,_,_,_,_,_,_,_,_,_,_,_,_,_,_,_,_,_,_,_,_,by rw[l0],qF1 l2 g7 (M.out.trans b7.out) a9 d8 d9.out h8.out h9.out (λi hi=>(HG.out i hi).1),by rw[l0];exact n8.its,n9⟩
end Go.Proofs.YtkaipapdlnojiaaGreat
