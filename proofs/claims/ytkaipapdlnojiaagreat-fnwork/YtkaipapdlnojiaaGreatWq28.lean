import Derived.Test.YtkaipapdlnojiaaGreatWq27
set_option maxHeartbeats 40000000
set_option maxRecDepth 1000000
namespace Go.Proofs.YtkaipapdlnojiaaGreat
open Go.RowKit
variable {ls:List (List Int)}{ws:List Int}{us:List Value}{B cap g k n p:Nat}{v0 vr vw:Value}{W a b:World}
theorem qAP(L:Nat->Int)(n span:Nat)(s:CSt)(hs:1<=span):∀k,∀x∈(qk L n span k s).1,0<=x/\x < (span:Int)
 |0,x,I=>by simp[qk]at I
 |k+1,x,I=>by
  rw[qk,List.mem_append,List.mem_singleton]at I;rcases I with I|rfl
  ·exact qAP L n span s hs k x I
  ·rcases QD (L:=L) (n:=n) (m:=span) (s:=(qk L n span k s).2)with h|h <;> omega
theorem qCh{α:Type}{l:List α}{b:Bool}{x y:α}(h:y∈qX l k b x):y∈l∨y=x:=by
 unfold qX at h;rw[List.mem_append,List.mem_append,List.mem_singleton]at h;rcases h with (h|h)|h
 ·exact Or.inl (List.mem_of_mem_take h)
 ·exact Or.inr h
 ·exact Or.inl (List.mem_of_mem_drop h)
theorem Jh(L:Nat->Int)(n span ar:Nat)(s:CSt)(hs:1<=span):∀k,∀r∈(qT L n span ar k s).1.1,∀x∈r,0<=x/\x < (span:Int)
 |0,r,hr=>by simp[qT]at hr
 |k+1,r,hr=>by
  rw[qT]at hr;rcases qCh hr with hr|rfl
  ·exact Jh L n span ar s hs k r hr
  ·exact qAP L n span _ hs ar
def CpV(v:Value):Prop:=∀a n c,v=.slice a n c->n<=c
theorem qCi{s:Nat}{e:TypeId}{v:Value}{xs:List Value}(h:W.ownsRow B e s v n xs):CpV v:=λa m c e=>by
 rcases h.2 with ⟨rfl,K⟩|⟨g,cap,cur,rfl,-,-,I,-⟩
 ·cases e;omega
 ·cases e;exact I
structure TbG(l:List Int)(span:Nat)(t:TbV):Prop where
 vs:t.vs=l
 rows:Vk l.length 9 (t.rows,t.ws)
 lt:∀r∈t.rows,∀x∈r,0<=x/\x < (span:Int)
theorem TmW.fz{vs:List Int}(h:TmW W B p v0 vs ls ws vr vw us)(hB:B<=p+1):Fz B (λX=>ITc X ⟨v0,vr,vw,⟨vs,ls,ws⟩⟩) W:=λW' K=>by
 have I:∀{k s B':Nat} {e:TypeId} {u:Value} {xs:List Value},W.ownsRow B' e s u k xs->B<=B'->W'.ownsRow B' e s u k xs:=λ{k s B' e u xs} hx hb=>qA hx λc M=>K c (by have:=(hx.lt c M).1;omega) (hx.lt c M).2;have hr:RWs W' (p+1) vr us ls:=⟨I h.rw.own hB,h.rw.len,λi hi=>I (h.rw.each i hi) hB⟩;exact⟨qK (I h.o0 (bK _)),hr.iss,qK (I h.ow hB)⟩
theorem Kc.alW(h:Kc g a b)(o:Obj):Kc g a (b.alloc o):=h.up ((bM _ _).alloc h.size o)
theorem Kc.dwW(h:Kc g a b):Kc g a b.drew:=h.drewN 1
def YM(L:Nat->Int)(n:Nat)(s:CSt):Nat:=if (pkF L n 14 (pkF L n 6 s).2).1=13 then 0 else 4+(pkF L n 6 s).1
theorem qFD(L:Nat->Int)(n:Nat)(s:CSt):YM L n s<=9:=by
 unfold YM;have:=qAi L n 6 s Oo;split <;> omega
structure TmB(w W:World)(g:Nat)(a:Option Addr)(L:Nat->Int)(n cap:Nat)(s:CSt)(p:Nat)(v0:Value)(vs:List Int)(ls:List (List Int))(ws:List Int)(vr vw:Value)(us:List Value):Prop where
 dr:Dr w W g a L n cap s
 b8:W.heap[w.heap.size]?=some (.cells #[.slice none 0 0,.slice none 0 0,.slice none 0 0] 34 (0,0))
 tm:TmW W (w.heap.size+1) p v0 vs ls ws vr vw us
 hp:w.heap.size < p
section
variable {w W W':World} {g:Nat} {a:Option Addr} {L:Nat->Int} {n cap:Nat} {s s':CSt} {p:Nat} {v0:Value} {vs:List Int} {ls:List (List Int)} {ws:List Int} {vr vw:Value} {us:List Value}
theorem TmB.kc(h:TmB w W g a L n cap s p v0 vs ls ws vr vw us)(I:Kc g W W')(K:Dr w W' g a L n cap s'):TmB w W' g a L n cap s' p v0 vs ls ws vr vw us:=
 ⟨K,zu h.b8 I (by have:=h.dr.gl;omega),h.tm.kc I (by have:=h.dr.gl;omega) (by have:=h.dr.gl;have:=h.hp;omega),h.hp⟩
theorem TmB.put{v1 v2:Value}{M:List Value}{I:List (List Int)}{K:List Int}(h:TmB w W g a L n cap s p v0 vs ls ws vr vw us)(hr:RWs W (p+1) v1 M I)(U:W.ownsRow (p+1) 3 1 v2 K.length (K.map (Value.int .i64)))(V:K.length=I.length)(O:I≠[]):
 TmB w ((W.setCell ⟨p,1,none⟩ v1).setCell ⟨p,2,none⟩ v2) g a L n cap s p v0 vs I K v1 v2 M:=by
 have hp:=h.hp;refine⟨h.dr.bel (((bM _ _).setCell (by show w.heap.size<=p;omega) _).setCell (by show w.heap.size<=p;omega) _),?_,h.tm.put hr U V O,hp⟩;rw[bE _ _ _ _ (show w.heap.size≠p by omega),bE _ _ _ _ (show w.heap.size≠p by omega)];exact h.b8
end
theorem TmB.fin{w:World}{a:Option Addr}{L:Nat->Int}{s:CSt}{vs:List Int}(h:TmB w W g a L n cap s p v0 vs ls ws vr vw us):
 Dr w (((W.setCell ⟨w.heap.size,0,none⟩ v0).setCell ⟨w.heap.size,1,none⟩ vr).setCell ⟨w.heap.size,2,none⟩ vw) g a L n cap s/\Fz w.heap.size (λX=>ITc X ⟨v0,vr,vw,⟨vs,ls,ws⟩⟩) (((W.setCell ⟨w.heap.size,0,none⟩ v0).setCell ⟨w.heap.size,1,none⟩ vr).setCell ⟨w.heap.size,2,none⟩ vw)/\
  (((W.setCell ⟨w.heap.size,0,none⟩ v0).setCell ⟨w.heap.size,1,none⟩ vr).setCell ⟨w.heap.size,2,none⟩ vw).cell? ⟨w.heap.size,0,none⟩=some v0/\(((W.setCell ⟨w.heap.size,0,none⟩ v0).setCell ⟨w.heap.size,1,none⟩ vr).setCell ⟨w.heap.size,2,none⟩ vw).cell? ⟨w.heap.size,1,none⟩=some vr/\(((W.setCell ⟨w.heap.size,0,none⟩ v0).setCell ⟨w.heap.size,1,none⟩ vr).setCell ⟨w.heap.size,2,none⟩ vw).cell? ⟨w.heap.size,2,none⟩=some vw:=by
 have hp:=h.hp;have I:(W.setCell ⟨w.heap.size,0,none⟩ v0).heap[w.heap.size]?=some (.cells #[v0,.slice none 0 0,.slice none 0 0] 34 (0,0)):=by rw[bJ _ _ _ _ _ _ h.b8];rfl
 have K:((W.setCell ⟨w.heap.size,0,none⟩ v0).setCell ⟨w.heap.size,1,none⟩ vr).heap[w.heap.size]?=some (.cells #[v0,vr,.slice none 0 0] 34 (0,0)):=by rw[bJ _ _ _ _ _ _ I];rfl
 have M:(((W.setCell ⟨w.heap.size,0,none⟩ v0).setCell ⟨w.heap.size,1,none⟩ vr).setCell ⟨w.heap.size,2,none⟩ vw).heap[w.heap.size]?=some (.cells #[v0,vr,vw] 34 (0,0)):=by rw[bJ _ _ _ _ _ _ K];rfl
 refine⟨h.dr.bel ((((bM _ _).setCell (by exact bK _) _).setCell (by exact bK _) _).setCell (by exact bK _) _),λX O=>(h.tm.fz Oo) X λq U q2=>?_,?_,?_,?_⟩
 ·rw[O q Oo (by simpa[World.setCell]using q2),bE _ _ _ _ (show q≠w.heap.size by omega),bE _ _ _ _ (show q≠w.heap.size by omega),bE _ _ _ _ (show q≠w.heap.size by omega)]
 all_goals(rw[cell_of_row _ _ _ _ _ _ M];rfl)
def DtE(w:World)(g:Nat)(a:Option Addr)(L:Nat->Int)(n cap:Nat)(s0:CSt)(span:Nat)(vs:List Int)(e:Ending)(w':World):Prop:=∃(x0 x1 x2:Value) (k:Nat) (s s':CSt),k<=9/\e=.returned (.agg #[x0,x1,x2])/\Dr w w' g a L n cap s'/\s'.1<=s0.1+100/\Fz w.heap.size (λX=>ITc X ⟨x0,x1,x2,⟨vs,(qT L n span vs.length k s).1.1,(qT L n span vs.length k s).1.2⟩⟩) w'/\CpV x1/\CpV x2
theorem ZZ(w:World)(g:Nat)(a:Option Addr)(L:Nat->Int)(n cap:Nat)(s0:CSt)(h:RdF w g a L n cap s0)(hn:n<=1048576)(hk:s0.1<=1000000)(vv:Value)(vs:List Int)(hv:IS w vv vs)(m6:0 < vs.length)(p4:vs.length<=8)(span:Nat)(g8:span<=256):
 Cl 38 #[.pointer (some ⟨g,0,none⟩),vv,.int .i64 span,.int .i64 9] w (DtE w g a L n cap s0 span vs):=by
 have p5:=h.lt;obtain⟨iI,g9,h8,i0,i1⟩:=info_parts Tryz.infoIw;obtain⟨av,cv,rfl,i2⟩:=hv
 obtain⟨gv,ov,rfl,i3⟩:∃b o,av=some ⟨b,o,none⟩/\∀j,j < vs.length->w.cell? ⟨b,o+j,none⟩=some (.int .i64 (vs.getD j 0)):=by
  rcases i2 with h0|h0
  ·omega
  ·exact h0
 have HV:Hid (∀W,Bl w W->∀(j:Nat) (u:Value),(vs.map (Value.int .i64))[j]?=some u->W.cell? ((⟨gv,ov,none⟩:Addr).add j)=some u):=hid λW hW j u hj=>by
  have e:(⟨gv,ov,none⟩:Addr).add j=⟨gv,ov+j,none⟩:=by unfold Addr.add;split <;> simp_all
  have c7:j < vs.length:=by
   have:=(List.getElem?_eq_some_iff.1 hj).1;simpa using this
  rw[bN,bC c7,Option.map_some]at hj;have h1:=i3 j c7;rw[gD,bC c7,Option.getD_some]at h1;rw[e,<-hj];exact(hW.cell (p:=⟨gv,ov+j,none⟩) (bL w _ h1)).trans h1
 obtain⟨W0,a7⟩:∃W0,W0=(w.alloc (.cells #[.slice none 0 0,.slice none 0 0,.slice none 0 0] 34)):=⟨_,rfl⟩;have i4:Bl w W0:=by rw[a7];exact(bM _ _).alloc (bK _) _
 have i5:W0.heap[w.heap.size]?=some (.cells #[.slice none 0 0,.slice none 0 0,.slice none 0 0] 34 (0,0)):=by rw[a7];exact heap_alloc_new _ _
 have c8:W0.heap.size=w.heap.size+1:=by rw[a7];simp
 have HD:=hid (Dr.start h);have HB:=hid i4;have i6:=hid i5;have e0:=hid c8;have e3:Hid ((W0.alloc (.cells #[] 3)).ownsRow (w.heap.size+1) 3 1 (.slice (some ⟨W0.heap.size,0,none⟩) 0 0) 0 []):=hid (oM W0 #[] 0 Oo Dd rfl);clear h i4 i5 c8 i2 i3;have m7:=Zy L n 6 s0;have m8:=qAi L n 6 s0 Oo;have m9:=Zy L n 14 (pkF L n 6 s0).2;have n3:=qAi L n 14 (pkF L n 6 s0).2 Oo;generalize hvl:vs.length=vl at *;go_enter Tryz.func38,Tryz.ntmps38
 go_upto_region 1 with fail
 rw[<-a7];clear a7;have e4:=hid hvl;clear hvl;go_upto_region 2 with (first|(at_builtin;refine wpList_append_lies _ rfl _ _ 25 rfl (w.heap.size+1) 3 iI (.int .i64 0) 1 8 Tryz.underlying25 g9 h8 i0 i1 rfl Dd _ 0 [] rfl e3.out ⟨gv,ov,none⟩ vl cv (vs.map (Value.int .i64)) rfl (by have:=e4.out;simp;omega) (HV.out _ (HB.out.alloc HB.out.size _)) (λu n4=>by obtain⟨x,-,rfl⟩:=List.mem_map.1 n4;rfl) m6 (by unfold maxLen;omega) Oo (by have:=e0.out;simp;omega) _ rfl ?_;intro g2 c2 w2 I a3 i7 o7)|fail)
 have c8:=e0.out;have c9:Below (w.heap.size+1) W0 w2:=((bM _ _).alloc Oo _).grown a3 (by simp;omega) (λc hc=>(e3.out.lt c hc).1);have n5:W0.heap.size<=w2.heap.size:=c9.size;have i8:w2.heap[w.heap.size]?=some (.cells #[.slice none 0 0,.slice none 0 0,.slice none 0 0] 34 (0,0)):=(c9.block _ Oo).trans i6.out;have i9:Bl w w2:=HB.out.trans (c9.mono Oo);rw[Nat.zero_add]at I;have HT:Hid (TmB w (w2.alloc (.cells #[.slice (some ⟨g2,0,none⟩) vl c2,.slice none 0 0,.slice none 0 0] 34)) g a L n cap s0 w2.heap.size (.slice (some ⟨g2,0,none⟩) vl c2) vs [] [] (.slice none 0 0) (.slice none 0 0) []):=hid ⟨HD.out.bel (i9.alloc Oo _),(Below.heap_alloc _ _ _ Oo).trans i8,⟨heap_alloc_new _ _,by rw[e4.out];exact I.alloc _,λq e=>by have:=(I.lt q e).2;omega,⟨bG _ _ _ _,rfl,λ_ hi=>absurd hi (Nat.not_lt_zero _)⟩,bG _ _ _ _,rfl,λ_=>⟨rfl,rfl⟩⟩,Oo⟩;have p6:w.heap.size < w2.heap.size:=Oo;clear I a3 i7 c9 i8 i9 e3 i6 HB e0 HD HV c8 n5;generalize hp:w2.heap.size=p at *;generalize w2.alloc (.cells #[.slice (some ⟨g2,0,none⟩) vl c2,.slice none 0 0,.slice none 0 0] 34)=w3 at *;obtain⟨V0,j0⟩:∃V0,V0=Value.slice (some ⟨g2,0,none⟩) vl c2:=⟨_,rfl⟩;rw[<-j0]at HT;go_upto_region 3 with (first|(go_at_call 35;refine(HT.out.dr.pick hn Oo (m:=6) Oo).mono ?_;rintro e w4 ⟨rfl,e5,j3⟩)|fail)
 go_upto_if 31 with (first|(go_at_call 35;refine(e5.pick hn Oo (m:=14) Oo).mono ?_;rintro e w5 ⟨rfl,j4,j5⟩)|fail)
 have e6:=hid ((HT.out.kc j3 e5).kc j5 j4);clear e5 j3 j4 j5 HT;go_cut [10] (λu wx=>u=.int .i64 ((YM L n s0:Nat):Int)/\Hid (TmB w wx g a L n cap (pkF L n 14 (pkF L n 6 s0).2).2 p V0 vs [] [] (.slice none 0 0) (.slice none 0 0) []))
 case first=>
  by_cases e7:(pkF L n 14 (pkF L n 6 s0).2).1=13
  ·have e1:YM L n s0=0:=if_pos e7;rw[e7];go_wp2_with fail
   go_meet;exact⟨by rw[e1];rfl,e6⟩
  ·have e1:YM L n s0=4+(pkF L n 6 s0).1:=if_neg e7;have j1:((((pkF L n 14 (pkF L n 6 s0).2).1:Nat):Int) == 13)=false:=by simp;omega
   have j2:¬(((pkF L n 14 (pkF L n 6 s0).2).1:Nat):Int)=13:=Oo;go_wp2_with fail
   go_meet;exact⟨by rw[e1];rfl,e6⟩
 case rest=>
 obtain⟨rfl,hcut⟩:=hcut;have HC:=hcut;clear hcut e6;generalize wc=w6 at *;have j6:=qFD L n s0;have p7:(pkF L n 14 (pkF L n 6 s0).2).2.1<=s0.1+2:=Oo;clear m7 m9 m8 n3;generalize (pkF L n 14 (pkF L n 6 s0).2).2=sR at *;generalize YM L n s0=cnt at *;go_wp2_with fail
 go_loopg [11,12,13,14] cnt (λgk v11 _ _ _ wx=>∃(j:Nat) (k0 k4:Value) (d6:List Value),v11=.int .i64 j/\j<=cnt/\gk=cnt - j/\Hid (TmB w wx g a L n cap (qT L n span vl j sR).2 p V0 vs (qT L n span vl j sR).1.1 (qT L n span vl j sR).1.2 k0 k4 d6))
 case atStart=>exact⟨0,_,_,_,rfl,nZ _,rfl,HC⟩
 case round=>
  clear HC;obtain⟨j,k0,k4,d6,rfl,hj,o8,HC⟩:=hrel;rename_i z12 z13 z14;generalize wr=w12 at *;have a8:=HC.out;have O:=kF L n span vl sR g8 j;have d8:=UT L n span vl sR j;have hmul:j*(vl+1)<=9*9:=Nat.mul_le_mul Oo Oo;obtain⟨a1,k1,e1⟩:=qW a8.tm.rw.own;obtain⟨a2,k2,e2⟩:=qW a8.tm.ow;subst e1 e2;have p8:=a8.tm.lt;have p9:=a8.hp;clear a8;by_cases c7:j < cnt
  ·have j1:(j:Int) < (cnt:Int):=Oo;have n6:Hid (qT L n span vl (j+1) sR=((qX (qT L n span vl j sR).1.1 (xM (qT L n span vl j sR).1.1 (qk L n span vl (qT L n span vl j sR).2).1) (xX (qT L n span vl j sR).1.1 (qk L n span vl (qT L n span vl j sR).2).1) (qk L n span vl (qT L n span vl j sR).2).1,qX (qT L n span vl j sR).1.2 (xM (qT L n span vl j sR).1.1 (qk L n span vl (qT L n span vl j sR).2).1) (xX (qT L n span vl j sR).1.1 (qk L n span vl (qT L n span vl j sR).2).1) (wtD L n (qk L n span vl (qT L n span vl j sR).2).2)),(pkF L n 11 (qk L n span vl (qT L n span vl j sR).2).2).2)):=hid rfl;have HG:Hid (Vk vl j (qT L n span vl j sR).1):=hid O;have n8:(qT L n span vl j sR).2.1<=1001100:=Oo;clear O d8 hmul;generalize qT L n span vl j sR=pp at *;obtain⟨⟨ls,ws⟩,sm⟩:=pp;have k5:Hid (Bl w12 (w12.alloc (.cells #[] 3))):=hid ((bM _ _).alloc (bK _) _);have n9:Hid ((w12.alloc (.cells #[] 3)).ownsRow w12.heap.size 3 1 (.slice (some ⟨w12.heap.size,0,none⟩) 0 0) 0 []):=hid (oM w12 #[] 0 (bK _) Dd rfl);have k7:w.heap.size<=w12.heap.size:=HC.out.dr.kc.size;have o9:sm.1<=1001100:=n8;go_upto_block 2 with fail
   go_wp2_with fail
   go_loopg [12,40] vl (λgk r q wx=>∃(k:Nat),q=.int .i64 k/\k<=vl/\gk=vl - k/\Hid (Dr w wx g a L n cap (qk L n span k sm).2/\Kc g w12 wx/\wx.ownsRow w12.heap.size 3 1 r k ((qk L n span k sm).1.map (Value.int .i64))))
   case atStart=>exact⟨0,rfl,nZ _,rfl,hid ⟨HC.out.dr.bel (k5.out.mono k7),Kc.ofBelow k5.out,n9.out⟩⟩
   case round=>
    obtain⟨k,rfl,q0,p1,HI⟩:=hrel;generalize wr=w13 at *;rename_i r0;have d9:=Xh L n span sm k;by_cases q6:k < vl
    ·have q1:(k:Int) < (vl:Int):=Oo;obtain⟨a9,U,V⟩:=HI.out;obtain⟨ax,cx,ex⟩:=qW V;subst ex;have k8:=hid a9;have k9:=hid U;have b0:=hid V;have e8:(qk L n span k sm).2.1<=1001200:=Oo;have l0:Hid (qk L n span (k+1) sm=((qk L n span k sm).1++[((pkF L n span (qk L n span k sm).2).1:Int)],(pkF L n span (qk L n span k sm).2).2)):=hid rfl;have l3:=U.size;clear HI a9 U V d9;generalize qk L n span k sm=rk at *;obtain⟨rl,sk⟩:=rk;have l4:sk.1<=1001200:=e8;have KP:Hid (Cl 35 #[.pointer (some ⟨g,0,none⟩),.int .i64 (span:Int)] w13 λe w'=>e=.returned (.int .i64 ((pkF L n span sk).1:Nat))/\Dr w w' g a L n cap (pkF L n span sk).2/\Kc g w13 w'):=hid (k8.out.pick hn (by show sk.1<=_;omega) g8);generalize pkF L n span sk=pz at *;obtain⟨z,sz⟩:=pz
     go_wp2_with (first
      |(go_at_call 35;refine KP.out.mono ?_;rintro e e9 ⟨rfl,a4,a5⟩;have b7:=hid (yY b0.out a5 Oo);have p2:=a5.size)
      |(at_builtin;refine wpList_append_lies _ rfl _ _ 25 rfl w12.heap.size 3 iI (.int .i64 0) 1 8 Tryz.underlying25 g9 h8 i0 i1 rfl Dd (.slice ax k cx) k _ rfl (b7.out.alloc _) ⟨e9.heap.size,0,none⟩ 1 1 [.int .i64 (z:Int)] rfl rfl (zJ _ _ _) (λu hu=>by simp at hu;subst hu;rfl) Dd (by unfold maxLen;omega) Oo (by simp;omega) _ rfl ?_;intro o2 l5 b9 a6 M f4 f7)
      |fail)
     have f8:Below w12.heap.size e9 b9:=((bM _ _).alloc Oo _).grown M (by simp;omega) (λc hc=>(b7.out.lt c hc).1)
     have HZ:Hid (Dr w b9 g a L n cap (qk L n span (k+1) sm).2/\Kc g w12 b9/\b9.ownsRow w12.heap.size 3 1 (.slice (some ⟨o2,0,none⟩) (k+1) l5) (k+1) ((qk L n span (k+1) sm).1.map (Value.int .i64))):=hid (by
      rw[l0.out];exact⟨a4.bel (f8.mono k7),(k9.out.trans a5).up f8,by rw[mA];exact a6⟩)
     clear f8 a6 M a4 a5 b7 f4 f7 KP l0 b0 k8 k9;go_wp2_with fail
     go_roundg (vl - (k+1))
     case measure=>omega
     case rel=>exact⟨k+1,Gg,Oo,rfl,HZ⟩
    ·obtain rfl:k=vl:=Oo;have q1:¬(k:Int) < (k:Int):=Oo;obtain⟨a9,U,V⟩:=HI.out;have d7:=hid (HC.out.kc U a9);obtain⟨-,c1,f9,cf⟩:=d7.out.tm.cells;obtain⟨ax,cx,ex⟩:=qW V;subst ex;have l6:(qk L n span k sm).1.length=k:=ZG L n span sm k;have b0:Hid (w13.ownsRow (p+1) 3 1 (.slice ax k cx) (qk L n span k sm).1.length ((qk L n span k sm).1.map (Value.int .i64))):=hid (by rw[l6];exact qF V Oo);have e8:(qk L n span k sm).2.1<=1001200:=Oo;have l3:=U.size;clear HI a9 U V d9;generalize qk L n span k sm=rk at *;obtain⟨rl,sk⟩:=rk;have l4:sk.1<=1001200:=e8;have p3:rl.length=k:=l6;have q7:g < p:=Oo;have KW:Hid (Cl 71 #[.pointer (some ⟨g,0,none⟩)] w13.drew λe w'=>e=.returned (.int .i64 (wtD L n sk))/\Dr w w' g a L n cap (pkF L n 11 sk).2/\Kc g w13 w'):=hid (((d7.out.dr.bel (bM _ _).drew).weight hn (by show sk.1<=_;omega)).mono λe w' ⟨h1,h2,h3⟩=>⟨h1,h2,(Kc.refl _ _).dwW.trans h3⟩)
     have KT:Hid (∀W x,Dr w W g a L n cap (pkF L n 11 sk).2/\Kc g w13 W->Cl 70 #[.slice a1 ls.length k1,.slice a2 ws.length k2,.slice ax k cx,.int .i64 x] W λe w'=>∃u1 u2 K,e=.returned (.tuple #[u1,u2])/\Kc g w13 w'/\TmB w w' g a L n cap (pkF L n 11 sk).2 p V0 vs ls ws (.slice a1 ls.length k1) (.slice a2 ws.length k2) d6/\RWs w' (p+1) u1 K (qX ls (xM ls rl) (xX ls rl) rl)/\w'.ownsRow (p+1) 3 1 u2 (qX ws (xM ls rl) (xX ls rl) x).length ((qX ws (xM ls rl) (xX ls rl) x).map (Value.int .i64))):=hid λW x ⟨h1,h2⟩=>by
      have l7:=d7.out.kc h2 h1;refine(l7.tm.call (by have:=HG.out.few;show ls.length<=2000;have h9:ls.length<=j:=this;omega) (λr hr=>by have:=HG.out.len r hr;omega) (yY b0.out h2 Oo) Oo x).mono ?_;rintro e w' ⟨u1,u2,K,h4,h5,h6,h7⟩;exact⟨u1,u2,K,h4,h2.up (h5.mono h2.size),l7.kc (Kc.ofBelow h5) (h1.bel (h5.mono h1.kc.size)),h6,h7⟩
     have l8:Hid (∀x,(qX ws (xM ls rl) (xX ls rl) x).length=(qX ls (xM ls rl) (xX ls rl) rl).length):=hid λx=>ZF HG.out.ws;have l9:Hid (qX ls (xM ls rl) (xX ls rl) rl≠[]):=hid (by unfold qX;simp);generalize hLS:qX ls (xM ls rl) (xX ls rl) rl=LS at *;generalize wtD L n sk=wv at *;generalize hWS:qX ws (xM ls rl) (xX ls rl) wv=WS at *;go_upto_region 13 with fail
     go_cut [13,14] from 49 to 59 (λu1 u2 wx=>∃K,Hid (Kc g w13 wx/\TmB w wx g a L n cap (pkF L n 11 sk).2 p V0 vs ls ws (.slice a1 ls.length k1) (.slice a2 ws.length k2) d6/\RWs wx (p+1) u1 K LS/\wx.ownsRow (p+1) 3 1 u2 WS.length (WS.map (Value.int .i64))))
     case first=>
      have g4:Hid (∀W,Kc g w13 W->W.cell? ⟨p,1,none⟩=some (.slice a1 ls.length k1)/\W.cell? ⟨p,2,none⟩=some (.slice a2 ws.length k2)/\Kc g w13 W):=hid λW hW=>⟨hW.cell Oo c1,hW.cell Oo f9,hW⟩
      first|go_region_held3 (λW=>W.cell? ⟨p,1,none⟩=some (.slice a1 ls.length k1)/\W.cell? ⟨p,2,none⟩=some (.slice a2 ws.length k2)/\Kc g w13 W)
       (first|with_reducible exact g4.out _ (Kc.refl _ _).dwW|with_reducible exact g4.out _ m0|with_reducible exact g4.out _ m1|fail)
       (first|(go_at_call 71;refine KW.out.mono ?_;rintro e e9 ⟨rfl,a4,m0⟩)|(go_at_call 70;refine(KT.out _ _ ⟨a4,m0⟩).mono ?_;rintro e b9 ⟨q8,q9,K,rfl,m1,m2,m3,m4⟩)|fail)|fail
      all_goals(go_wp2_with fail;go_meet)
      all_goals exact⟨K,hid ⟨m1,m2,m3,by rw[<-hWS];exact m4⟩⟩
     case rest=>
     rename_i u13 u14;obtain⟨K,hcut⟩:=hcut;obtain⟨o3,g5,g6,g7⟩:=hcut.out;obtain⟨b1,l1,f1⟩:=qW g6.own;obtain⟨b2,l2,f2⟩:=qW g7;subst f1 f2;obtain⟨d0,d1,d2,df⟩:=g5.tm.cells;have r1:=df 1;have r2:=df 2;have HF:=hid (g5.put g6 g7 (by rw[<-hWS];exact l8.out wv) l9.out);clear hcut o3 g5 g6 g7 d0 df KW KT l8 l9 b0 d7 c1 f9 cf;go_wp2_with fail
     go_roundg (cnt - (j+1))
     case measure=>omega
     case rel=>exact⟨j+1,_,_,K,Gg,Oo,rfl,by rw[n6.out];exact HF⟩
  ·obtain rfl:j=cnt:=Oo;have j1:¬(j:Int) < (j:Int):=Oo;subst j0;obtain⟨c0,c1,f9,cf⟩:=HC.out.tm.cells
   have o4:w12.cell? ⟨w.heap.size,0,none⟩=some (.slice none 0 0)/\w12.cell? ⟨w.heap.size,1,none⟩=some (.slice none 0 0)/\w12.cell? ⟨w.heap.size,2,none⟩=some (.slice none 0 0):=by
    refine⟨?_,?_,?_⟩ <;> (rw[cell_of_row _ _ _ _ _ _ HC.out.b8];rfl)
   obtain⟨x0,x1,x2⟩:=o4;have xf:∀o,w12.frozen? ⟨w.heap.size,o,none⟩=false:=λo=>by unfold World.frozen?;rw[show w12.heap[w.heap.size]?=_ from HC.out.b8];simp
   have r3:=xf 0;have r4:=xf 1;have r5:=xf 2;have r6:¬w.heap.size=p:=Oo;have o5:(qT L n span vl j sR).2.1<=s0.1+100:=Oo;clear O d8 hmul;generalize hrr:qT L n span vl j sR=pp at *;obtain⟨⟨ls,ws⟩,sm⟩:=pp;have o6:=hid hrr;clear hrr;obtain⟨q1,q2,q3,q4,q5⟩:=HC.out.fin;have HQ:=hid (And.intro q1 q2);have m5:=hid (And.intro (qCi HC.out.tm.rw.own) (qCi HC.out.tm.ow));clear q1 q2 HC cf xf;generalize ls.length=n1 at *;generalize ws.length=n2 at *;go_wp2_with fail
   refine bodyPost_ret (v:=.agg #[.slice (some ⟨g2,0,none⟩) vl c2,.slice a1 n1 k1,.slice a2 n2 k2]) (by simp only[results,Tryz.results38];simp[go_sem,q3,q4,q5]) rfl ?_;obtain⟨f1,f2⟩:=HQ.out;refine⟨_,_,_,j,sR,sm,j6,rfl,f1,o5,?_,m5.out.1,m5.out.2⟩;rw[e4.out,o6.out];exact f2
theorem Rdr.rdf{a:Option Addr}(h:Rdr W g a n cap k):∃(L:Nat->Int) (s:CSt),s.1<=k/\RdF W g a L n cap s:=by
 obtain⟨O,sd,U,h⟩:=h;refine⟨λj=>if I:j < n then (h.bytes j I).choose_spec.choose_spec.choose else 0,(O,sd),U,h,λj I b o e=>?_⟩;have M:=(h.bytes j I).choose_spec.choose_spec.choose_spec;show W.cell? ⟨b,o+j,none⟩=some (.int .u8 (if I:j < n then (h.bytes j I).choose_spec.choose_spec.choose else 0));rw[dif_pos I];have K:=e.symm.trans M.1;simp only[Option.some.injEq,Addr.mk.injEq,and_true]at K;rw[K.1,K.2];exact M.2.2.1
theorem XT(W:World)(g:Nat)(a:Option Addr)(n cap k:Nat)(hC:Rdr W g a n cap k)(hn:n<=1048576)(hk:k<=1000000)(M:Value)(vs:List Int)(hv:IS W M vs)(O:0 < vs.length)(U:vs.length<=8)(span:Nat)(V:1<=span)(K:span<=256):
 Cl 38 #[.pointer (some ⟨g,0,none⟩),M,.int .i64 span,.int .i64 9] W λe w'=>∃r:TbC,e=.returned (.agg #[r.v0,r.v1,r.v2])/\Kc g W w'/\Rdr w' g a n cap (k+100)/\Fz W.heap.size (λX=>ITc X r) w'/\CpV r.v1/\CpV r.v2/\TbG vs span r.t:=by
 obtain⟨L,s,hs,hF⟩:=hC.rdf;refine(ZZ W g a L n cap s hF hn Oo M vs hv O U span K).mono ?_;rintro e w' ⟨x0,x1,x2,j,s1,s2,h1,h2,h3,h4,h5,h6,h7⟩;have I:=kF L n span vs.length s1 K j;exact⟨⟨x0,x1,x2,⟨vs,_,_⟩⟩,h2,h3.kc,⟨s2.1,s2.2,Oo,h3.rd.1⟩,h5,h6,h7,rfl,⟨I.srt,I.len,I.val,bQ I.few h1,I.ws,I.wt⟩,Jh L n span vs.length s1 V j⟩
end Go.Proofs.YtkaipapdlnojiaaGreat
