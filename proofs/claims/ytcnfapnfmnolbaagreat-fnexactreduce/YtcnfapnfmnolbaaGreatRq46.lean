import Derived.Test.YtcnfapnfmnolbaaGreatRq45
set_option maxHeartbeats 40000000
set_option maxRecDepth 1000000
namespace Go.Proofs.YtcnfapnfmnolbaaGreat
open Go.RowKit Meet
theorem qEr:∀{l:LI},(∀x∈l,0<=x)->0<=l.sum
 |[],_=>Ss
 |y::l,h=>by
  have K:=h y List.mem_cons_self;have M:=qEr (l:=l) λx I=>h x (mC _ I);rw[List.sum_cons];omega
section
variable {k:Int} {tl:List TbV} {bs:LL} {ps hs:LI} {ws:List (Int×Int)} {x:Int×Int}
def Q3(k:Int)(tl:List TbV)(bs:LL)(ps hs:LI)(ws:List (Int×Int))(x:Int×Int):Bool:=yq k tl bs ps hs ws x&&decide (0<=qw tl (upR k.toNat))
def zi(k:Int)(tl:List TbV)(bs:LL)(ps hs:LI)(ws:List (Int×Int))(x:Int×Int):List TbV:=if Q3 k tl bs ps hs ws x then bs.map (rdT k tl) else []
theorem qBJ(h:Q3 k tl bs ps hs ws x=false):zi k tl bs ps hs ws x=[]:=by unfold zi;rw[h];rfl
theorem vU(h:yq k tl bs ps hs ws x=true):qe k tl bs ps hs ws x=true/\∀i,i<bs.length->0<=bgV tl (bs.getD i []):=by
 unfold yq at h;rw[bV,aT]at h;exact⟨h.1,λi hi=>of_decide_eq_true (h.2 _ (yC hi))⟩
theorem qGo(h:whJ k tl bs ps hs ws x=false):zi k tl bs ps hs ws x=[]:=qBJ (by
 rw[Bool.eq_false_iff];intro I;unfold Q3 at I;rw[bV]at I;have K:=(vU I.1).1;unfold qe at K;rw[bV]at K;unfold whJ at h;rw[K.2,I.2]at h;cases h)
theorem XU:zW k tl bs ps hs ws x<0↔yq k tl bs ps hs ws x=false:=by
 unfold zW;cases e:yq k tl bs ps hs ws x with
 |false=>simp
 |true=>
  have h:=(vU e).2;have M:0<=(bs.map (bgV tl)).sum:=qEr λy K=>by
   obtain⟨b,hb,rfl⟩:=List.mem_map.1 K;obtain⟨i,hi,rfl⟩:=gO hb;have:=h i hi;rw[gdR hi]at this;exact this
  simp only[if_true];constructor;intro I;omega;intro I;cases I
theorem qDB(h:zW k tl bs ps hs ws x<0):zi k tl bs ps hs ws x=[]:=qBJ (by unfold Q3;rw[XU.1 h];rfl)
theorem qGp(I:whJ k tl bs ps hs ws x=true)(M:¬zW k tl bs ps hs ws x<0):qe k tl bs ps hs ws x=true/\(∀i,i<bs.length->0<=bgV tl (bs.getD i []))/\0<=qw tl (upR k.toNat)/\xe k tl bs ps hs ws x=bs.map (bgT tl)/\zi k tl bs ps hs ws x=bs.map (rdT k tl):=by
 have K:yq k tl bs ps hs ws x=true:=by
  cases e:yq k tl bs ps hs ws x with
  |true=>rfl
  |false=>exact absurd (XU.2 e) M
 unfold whJ at I;rw[bV]at I;refine⟨(vU K).1,(vU K).2,of_decide_eq_true I.2,by unfold xe;rw[K];rfl,?_⟩;unfold zi Q3;rw[K,I.2];rfl
theorem qFi(I:zw ps bs.length=true){i:Nat}(hi:i<bs.length):(orT (bs.length:Int) ps++[(bs.length:Int)]).getD i 0=(y6 ps bs.length i:Int):=by
 have hl:ps.length=bs.length:=by
  unfold zw at I;rw[bV,dE]at I;have:=I.1;omega
 have K:=Kf I hi;rw[gD,aL (by rw[qBG];omega)];unfold orT y6;rw[bK,gE Oo,<-gdR (d:=0) Oo];show(if ps.getD i 0<0 then (bs.length:Int) else ps.getD i 0)=_;by_cases e:ps.getD i 0<0;rw[if_pos e,if_pos e];rw[if_neg e,if_neg e];omega
theorem Vs(h:qe k tl bs ps hs ws x=true)(hv:∀i,i<bs.length->0<=bgV tl (bs.getD i [])):(∀n,n<=bs.length->∀i,i<=bs.length->qU ((upT (y6 ps bs.length) (vV tl bs) n).getD i qA)=true)/\∀n,n<=bs.length->∀i,i<=bs.length->qU ((dnT (y6 ps bs.length) bs.length (upT (y6 ps bs.length) (vV tl bs) bs.length) n).getD i qA)=true:=by
 obtain⟨M,I,O,U⟩:=uV h;have hs:=Vw h hv;obtain⟨u1,u2⟩:=YQ (Zb h) (kM I) hs bs.length (nR _);exact⟨λn K i hi=>((YQ (Zb h) (kM I) hs n K).1.ok i hi).tab,λn K i hi=>((Ke (Zb h) (kM I) u1 u2 n K).1.ok i hi).tab⟩
end
theorem TBs.takeM{W:World}{B g n c m:Nat}{rl:List TbR}(h:TBs W B (.slice (some (az g 0)) n c) rl)(U:m<=rl.length):TBs W B (.slice (some (az g 0)) m c) (rl.take m):=by
 refine⟨?_,λt I=>h.each t (List.mem_of_mem_take I),h.ap.sublist (List.take_sublist _ _)⟩;have hl:(rl.take m).length=m:=by rw[bW];omega
 have O:(rl.take m).flatMap tcs=(rl.flatMap tcs).take (m*3):=by
  clear h hl;induction rl generalizing m with
  |nil=>simp
  |cons r rl ih=>
   cases m with
   |zero=>simp
   |succ m=>
    rw[List.take_succ_cons,List.flatMap_cons,List.flatMap_cons,ih (by simpa using U),show(m+1)*3=3+m*3 by omega];show [r.v0,r.v1,r.v2]++_=([r.v0,r.v1,r.v2]++_).take (3+m*3);rw[List.take_append,List.take_of_length_le (l:=[r.v0,r.v1,r.v2]) Ss];simp
 rcases h.own with ⟨V,K⟩;refine⟨by rw[O,bW,V,hl];omega,Or.inr ?_⟩;rcases K with ⟨K,-⟩|⟨g',cap,cur,e,hb,hh,hn,hc,M,I⟩;cases K
 simp only[Value.slice.injEq,Option.some.injEq,Addr.mk.injEq,and_true]at e;obtain⟨rfl,e2,rfl⟩:=e;refine⟨g,c,cur,by rw[hl],hb,hh,by rw[hl];omega,hc,M,?_⟩;rw[hl,O,<-I,List.take_take];congr 1;omega
theorem Uc{k x y:Int}{tl:List TbV}{bs:LL}{ps hs:LI}{ws:List (Int×Int)}(hr:qe k tl bs ps hs ws (x,y)=true)(hv:∀i,i<bs.length->0<=bgV tl (bs.getD i []))(w0 wb W4 W:World)(vb:Value)(rl:List TbR)(M:Option Addr)(O z0:Nat)(q1:Option Addr)(m1 z1:Nat)(q2:Option Addr)(m2 z2:Nat)(he:rl.map tvB=bs.map (bgT tl))(h:qB9 w0 wb vb rl tl ps hs W4 (.slice M O z0) (.slice q1 m1 z1) (.slice q2 m2 z2))(hb:Bl W4 W):
 ∃g,M=some (az g 0)/\O=bs.length+1/\bs.length+1<=z0/\g<W4.1.size/\(∃cur,W.1[g]?=some (.cells cur 61 (0,0)))/\Cl 32 #[.agg #[.slice M O z0,.slice q1 m1 z1,.slice q2 m2 z2]] W λe w'=>(∃v,e=.returned v)/\(∃rl,TBs w' w0.1.size (.slice M O z0) rl/\rl.map tvB=ui tl bs ps)/\Bl w0 w'/\KpG W.1.size g W w':=by
 obtain⟨h2,U,h4,h5⟩:=uV hr;obtain⟨rl',V,t2⟩:=h.tb;have a3:rl.length=bs.length:=by have:=congrArg List.length he;rw[lM,lM]at this;exact this
 have hT:rl'.map tvB=vV tl bs:=by rw[t2,he];rfl
 have a4:rl'.length=bs.length+1:=by have:=congrArg List.length t2;rw[lM,lA,lM,a3]at this;exact this
 have I:ps.length=bs.length:=by
  unfold zw at U;rw[bV,dE]at U;have:=U.1;omega
 obtain⟨g,z,hz⟩:∃g z,(.slice M O z0:Value)=.slice (some (az g 0)) (bs.length+1) z/\bs.length+1<=z:=by
  rcases V.own.2 with ⟨-,e⟩|⟨g,cap,cur,e,-,-,e2,-⟩;omega;exact⟨g,cap,by rw[e,a4],Oo⟩
 obtain⟨gp,zp,a6⟩:∃g z,(.slice q1 m1 z1:Value)=.slice (some (az g 0)) (bs.length+1) z:=by
  rcases h.pa.2 with ⟨-,e⟩|⟨g,cap,cur,e,-⟩;omega;exact⟨g,cap,by rw[e,I]⟩
 have K:=qB h.pa hb;rw[a3,I]at K;rw[hz.1]at V ⊢;rw[a6]at K ⊢;have e0:=hz.1;simp only[Value.slice.injEq]at e0;obtain⟨rfl,rfl,rfl⟩:=e0;refine⟨g,rfl,rfl,hz.2,(V.own.lt g rfl).2,qN (qB V.own hb) rfl,?_⟩;have a5:=(qp hr).2.2.1;exact Kc w0 W g _ gp zp bs.length q2 m2 z2 (vV tl bs) (orT (bs.length:Int) ps++[(bs.length:Int)]) (y6 ps bs.length) (bt h.bel hb) ⟨rl',V.below hb,hT⟩ (by rw[<-hT,lM,a4]) (by rw[lA,qBG,I];rfl) K a5 (λi hi=>⟨qFi U hi,(kM U i hi).2⟩) (Vs hr hv).1 (Vs hr hv).2
theorem Ud(w:World)(vt v0 v1 v2 v3:Value)(k x y:Int)(tl:List TbV)(bs:LL)(ps hs:LI)(ws:List (Int×Int))(h:ITs w vt tl)(hl:tl.length<=1048576)(b8:∀t∈tl,TvS t)(K:IPl w v0 v1 v2 v3 bs ps hs ws)(b9:qT bs)(c7:ps.length<=1099511627776):
 Cl 9 #[ai k,vt,.agg #[v0,v1,v2,v3,ai x,ai y]] w λe w'=>∃v rl,e=.returned v/\TBs w' w.1.size v rl/\rl.map tvB=zi k tl bs ps hs ws (x,y)/\Bl w w':=by
 have i6:Tryz.prog.follows .mixedOrders=true:=Kl;have KW:Hh (∀W,Bl w W->Cl 29 #[ai k,vt,.agg #[v0,v1,v2,v3,ai x,ai y]] W λe w'=>∃a n c,e=.returned (.tuple #[.slice a n c,.bool (whJ k tl bs ps hs ws (x,y))])/\Bl W w'):=ay λW I=>YM W vt v0 v1 v2 v3 k x y tl bs ps hs ws (h.below I) hl b8 (K.below I) b9 c7;have KB:Hh (∀W,Bl w W->Cl 30 #[ai k,vt,.agg #[v0,v1,v2,v3,ai x,ai y]] W λe w'=>∃(a:Option Addr) (n c:Nat) (rl:List TbR),e=.returned (.tuple #[.slice a n c,ai (zW k tl bs ps hs ws (x,y))])/\TBs w' w.1.size (.slice a n c) rl/\rl.map tvB=xe k tl bs ps hs ws (x,y)/\Bl W w'):=ay λW I=>by
  refine(qBX W vt v0 v1 v2 v3 k x y tl bs ps hs ws (h.below I) hl b8 (K.below I) b9 c7).mono ?_;rintro e w' ⟨v,rl,rfl,h1,h2,h3⟩;obtain⟨a,c,e0⟩:=qG h1.own;subst e0;exact⟨_,_,_,rl,rfl,h1.base I.size,h2,h3⟩
 have HY:Hh (whJ k tl bs ps hs ws (x,y)=true->¬zW k tl bs ps hs ws (x,y)<0->qe k tl bs ps hs ws (x,y)=true/\(∀i,i<bs.length->0<=bgV tl (bs.getD i []))/\0<=qw tl (upR k.toNat)/\xe k tl bs ps hs ws (x,y)=bs.map (bgT tl)/\zi k tl bs ps hs ws (x,y)=bs.map (rdT k tl)):=ay qGp;have c8:Hh (whJ k tl bs ps hs ws (x,y)=false->zi k tl bs ps hs ws (x,y)=[]):=ay qGo;have U:Hh (zW k tl bs ps hs ws (x,y)<0->zi k tl bs ps hs ws (x,y)=[]):=ay qDB;have KT:Hh (qe k tl bs ps hs ws (x,y)=true->∀W vb rl,Bl w W->TBs W w.1.size vb rl->rl.map tvB=bs.map (bgT tl)->Cl 31 #[vb,vt,.agg #[v0,v1,v2,v3,ai x,ai y]] W λe w'=>∃(q0:Option Addr) (m0 z0:Nat) (q1:Option Addr) (m1 z1:Nat) (q2:Option Addr) (m2 z2:Nat),e=.returned (.agg #[.slice q0 m0 z0,.slice q1 m1 z1,.slice q2 m2 z2])/\qB9 w W vb rl tl ps hs w' (.slice q0 m0 z0) (.slice q1 m1 z1) (.slice q2 m2 z2)):=ay λhr W vb rl I hT he=>by
  obtain⟨r1,r2,r3,r4,r5⟩:=qp hr;obtain⟨-,h3,-,h5⟩:=uV hr;have i7:rl.length=bs.length:=by have:=congrArg List.length he;rw[lM,lM]at this;exact this
  have i8:ps.length=bs.length:=by
   unfold zw at h3;rw[bV,dE]at h3;have:=h3.1;omega
  have i9:hs.length=tl.length:=by
   unfold yQ at h5;rw[bV,dE,lM]at h5;exact h5.1
  obtain⟨a0,k0,e0,-⟩:=K.b;obtain⟨a3,k3,e3,-⟩:=K.d;exact KK w W vb vt v0 v1 v2 v3 x y rl tl bs.length ws.length ps hs I h r4 (λt ht=>aT.1 r1 t ht) ⟨a0,k0,e0⟩ ⟨a3,k3,e3⟩ K.p K.h Oo Oo hT Oo
 have KR:Hh (qe k tl bs ps hs ws (x,y)=true->(∀i,i<bs.length->0<=bgV tl (bs.getD i []))->_):=ay λhr hv=>Uc (k:=k) (x:=x) (y:=y) (tl:=tl) (bs:=bs) (ps:=ps) (hs:=hs) (ws:=ws) hr hv w;have V:Hh (qe k tl bs ps hs ws (x,y)=true->(∀i,i<bs.length->0<=bgV tl (bs.getD i []))->0<=qw tl (upR k.toNat)->(ui tl bs ps).take bs.length=bs.map (rdT k tl)/\(ui tl bs ps).length=bs.length+1):=ay λh1 h2 h3=>⟨qFo h1 h2 h3,VH⟩;obtain⟨a0,k0,rfl,-⟩:=K.b;obtain⟨a1,k1,rfl,-⟩:=K.p;obtain⟨a2,k2,rfl,-⟩:=K.h;obtain⟨a3,k3,rfl,-⟩:=K.d;clear K b9 b8 c7;obtain⟨j0,ct,rfl,-⟩:=h;generalize whJ k tl bs ps hs ws (x,y)=WH at *;generalize qe k tl bs ps hs ws (x,y)=RD at *;generalize xe k tl bs ps hs ws (x,y)=GT at *;generalize zW k tl bs ps hs ws (x,y)=GV at *;generalize zi k tl bs ps hs ws (x,y)=RT at *;generalize qw tl (upR k.toNat)=VJ at *;obtain⟨W1,a4⟩:=Ex (w.alloc (.cells #[.slice a0 bs.length k0,.slice a1 ps.length k1,.slice a2 hs.length k2,.slice a3 ws.length k3,ai x,ai y] 38));have c9:Hh (PX 38 W1 w.1.size (.slice a0 bs.length k0) (.slice a1 ps.length k1) (.slice a2 hs.length k2) (.slice a3 ws.length k3) x y):=ay (by rw[a4];exact PX.made _ _ _ _ _ _ _ _);have d2:Hh (Bl w W1):=ay (by rw[a4];exact(bJ _ _).alloc (nR _) _);have d3:Hh (∀W,PX 38 W w.1.size (.slice a0 bs.length k0) (.slice a1 ps.length k1) (.slice a2 hs.length k2) (.slice a3 ws.length k3) x y->W.cell? (az w.1.size 0)=some (.slice a0 bs.length k0)/\W.cell? (az w.1.size 1)=some (.slice a1 ps.length k1)/\W.cell? (az w.1.size 2)=some (.slice a2 hs.length k2)/\W.cell? (az w.1.size 3)=some (.slice a3 ws.length k3)/\W.cell? (az w.1.size 4)=some (ai x)/\W.cell? (az w.1.size 5)=some (ai y)):=ay λW I=>I.six;have M:Hh (∀W,Bl w W->RT=[]->∃v rl,Ending.returned (.slice (some (az W.1.size 0)) 0 0)=.returned v/\TBs (W.alloc (.cells #[] 61)) w.1.size v rl/\rl.map tvB=RT/\Bl w (W.alloc (.cells #[] 61))):=ay λW I hg=>⟨_,[],rfl,Z5 W _ I.size,by rw[hg];rfl,yk I _⟩;obtain⟨s0,s1,s2,s3,s4,s5⟩:=d3.o W1 c9.o;have e5:=ay (KW.o W1 d2.o);clear KW;go_enter Tryz.func9,Tryz.ntmps9;go_upto_region 1 with fail;rw[<-a4];clear a4;go_upto_region 2 with (first|(go_at_call 29;refine e5.o.mono ?_;rintro e w2 ⟨aj,nj,cj,rfl,d4⟩)|fail);have a5:=ay (bt d2.o d4);have d5:=ay (c9.o.below d4);clear s0 s1 s2 s3 s4 s5 e5 c9 d2 d4;cases WH with
 |false=>
  have HG:=ay (c8.o (by trivial));clear c8 U HY KB KT KR V;go_wp2_with fail;go_ret;exact M.o _ a5.o HG.o
 |true=>
  obtain⟨s0,s1,s2,s3,s4,s5⟩:=d3.o w2 d5.o;have e6:=ay (KB.o w2 a5.o);clear KB c8;go_upto_region 5 with (first|(go_at_call 30;refine e6.o.mono ?_;rintro e w3 ⟨ab,d6,cb,rl,rfl,e7,e8,d7⟩)|fail);have e9:=ay (bt a5.o d7);have a6:=ay (d5.o.below d7);have a7:=ay e7;have a8:=ay e8;clear s0 s1 s2 s3 s4 s5 e6 d5 a5 d7 e7 e8;by_cases f7:GV<0
  ·have HG:=ay (U.o f7);clear U HY KT KR V a7 a8;go_wp2_with fail;go_ret;exact M.o _ e9.o HG.o
  obtain⟨y1,y2,y3,y4,y5⟩:=HY.o (by trivial) Oo;have f8:=ay (KT.o y1 w3 (.slice ab d6 cb) rl e9.o a7.o (a8.o.trans y4));have f9:=ay (KR.o y1 y2);have d8:=ay (V.o y1 y2 y3);have g4:=ay (a8.o.trans y4);have g5:=ay y5;obtain⟨s0,s1,s2,s3,s4,s5⟩:=d3.o w3 a6.o;have g6:Hh ((Value.slice ab d6 cb).ownBlock≠some w.1.size):=ay λe=>own_ne a7.o.own ⟨_,a6.o.blk⟩ Dd e.symm;clear U HY KT KR V a7 a8 y1 y2 y3 y4 y5 M;go_upto_region 8 with (first|(go_at_call 31;refine f8.o.mono ?_;rintro e w4 ⟨q0,m0,z0,q1,m1,z1,q2,m2,z2,rfl,d9⟩)|fail);have g7:Hh (PX 38 w4 w.1.size (.slice a0 bs.length k0) (.slice a1 ps.length k1) (.slice a2 hs.length k2) (.slice a3 ws.length k3) x y):=ay ⟨(d9.fr _ a6.o.lt g6.o).trans a6.o.blk⟩;obtain⟨W5,a9⟩:=Ex (w4.alloc (.cells #[.slice q0 m0 z0,.slice q1 m1 z1,.slice q2 m2 z2] 69));have g8:Bl w4 W5:=by rw[a9];exact yk (bJ _ _) _
  have O:Bx3 69 W5 w4.1.size (.slice q0 m0 z0) (.slice q1 m1 z1) (.slice q2 m2 z2):=by rw[a9];exact Bx3.made _ _ _ _ _
  obtain⟨g,rfl,rfl,hz,j1,g9,h0⟩:=f9.o w3 w4 W5 (.slice ab d6 cb) rl q0 m0 z0 q1 m1 z1 q2 m2 z2 g4.o d9 g8;have h4:=ay h0;have e1:=ay O;have b7:=ay (g7.o.below g8);have h6:Hh (w.1.size≠g):=ay λe=>by
   obtain⟨cur,h7⟩:=g9;have:=b7.o.blk;rw[e,h7]at this;simp only[Option.some.injEq,Obj.cells.injEq]at this;exact absurd this.2.1 Dd
  have b0:=O.c0;have b1:=O.c1;have b2:=O.c2;rw[<-a9];clear a9 d9 g9 h0 O f9 f8 g4 g7 g6 s0 s1 s2 s3 s4 s5;go_upto_region 9 with (first|(go_at_call 32;refine h4.o.mono ?_;rintro e w6 ⟨⟨v6,rfl⟩,⟨h8,h9,e2⟩,i0,e4⟩)|fail);have i2:Bx3 69 w6 w4.1.size (.slice (some (az g 0)) (bs.length+1) z0) (.slice q1 m1 z1) (.slice q2 m2 z2):=⟨(e4.block _ e1.o.lt Oo).trans e1.o.blk⟩;have i3:PX 38 w6 w.1.size (.slice a0 bs.length k0) (.slice a1 ps.length k1) (.slice a2 hs.length k2) (.slice a3 ws.length k3) x y:=⟨(e4.block _ b7.o.lt h6.o).trans b7.o.blk⟩;have d0:=i2.c0;have d1:=i3.six.1;have HF:Hh (∃rl,TBs w6 w.1.size (.slice (some (az g 0)) bs.length z0) rl/\rl.map tvB=RT):=ay (by
   have j2:h8.length=bs.length+1:=by have:=congrArg List.length e2;rw[lM,d8.o.2]at this;exact this
   refine⟨h8.take bs.length,h9.takeM Oo,?_⟩;rw[g5.o,<-d8.o.1,<-e2,List.map_take])
  have i4:=ay i0;have i1:(bs.length:Int)<=(z0:Int):=Oo;clear h4 e1 b7 h6 b0 b1 b2 h9 e2 e4 i2 i3 d8 g5 i0;go_wp2_with fail;go_ret;obtain⟨i5,h1,h2⟩:=HF.o;exact⟨_,i5,rfl,h1,h2,i4.o⟩
end Go.Proofs.YtcnfapnfmnolbaaGreat
