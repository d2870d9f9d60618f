import Derived.Test.YtcnfapnfmnolbaaGreatRq24
import Derived.Test.YtcnfapnfmnolbaaGreatRq39
set_option maxHeartbeats 40000000
set_option maxRecDepth 1000000
namespace Go.Proofs.YtcnfapnfmnolbaaGreat
open Go.RowKit
variable {k:Int}{b l o r:LI}{bs rows:LL}{tl:List TbV}{i j:Nat}{a t:TbV}{v0:Value}{W:World}
theorem qAs(h:l.Pairwise (·< ·))(hb:∀x∈l,0<=x/\x<6):qV l=true:=js λi hi=>by
 have K:l.getD i 0=l[i]:=by rw[gD,gE hi];rfl
 have I:=hb _ (gM hi);rw[<-K]at I;unfold xD;rw[bV,bV,Bool.or_eq_true,dE,dE,dE,dE];refine⟨⟨I.1,I.2⟩,?_⟩;by_cases e:i=0;exact Or.inl e;refine Or.inr ?_;have M:l.getD (i-1) 0=l[i-1]:=by rw[gD,gE Oo];rfl
 rw[K,M];exact List.pairwise_iff_getElem.1 h (i-1) i Oo hi Oo
theorem ZM(h:qV l=true){x:Int}(K:x∈l):0<=x/\x<6:=by
 obtain⟨i,hi,rfl⟩:=gO K;have I:=QA h i hi;rw[gD,gE hi]at I;have M:(i:Int)<=l[i]:=I.1;exact⟨Oo,I.2⟩
def prR(b:LI)(t:TbV):LL:=srt (t.rows.map (qI t.vs (shr t.vs b)))
def prT(b:LI)(t:TbV):TbV:=⟨shr t.vs b,prR b t,zF (prR b t).length⟩
def hasB(b:LI)(t:TbV):Bool:=decide (0<(shr t.vs b).length)
def zO(tl:List TbV)(b:LI):List TbV:=(tl.filter (hasB b)).map (prT b)
theorem kS(tl:List TbV)(b:LI):(zO tl b).length<=tl.length:=by
 unfold zO;rw[lM];exact List.length_filter_le _ _
theorem VV(I:j<tl.length):zO (tl.take (j+1)) b=zO (tl.take j) b++(if hasB b (tl.getD j qA) then [prT b (tl.getD j qA)] else []):=by
 unfold zO;rw[tA,gE I,List.filter_append,mA,gD,gE I];show _++List.map (prT b) (List.filter (hasB b) [tl[j]])=_++(if hasB b tl[j] then [prT b tl[j]] else []);rw[List.filter_cons];split <;> rfl
theorem qGE(b:LI):SL (prR b t)/\(prR b t).length<=t.rows.length/\∀r∈prR b t,r.length=(shr t.vs b).length:=by
 unfold prR;have I:=zu _ (t.rows.map (qI t.vs (shr t.vs b))) (nR _);have K:=xT _ (t.rows.map (qI t.vs (shr t.vs b))) (nR _);rw[lM]at K;refine⟨I.1,K,λr M=>?_⟩;obtain⟨q,-,rfl⟩:=List.mem_map.1 ((I.2 r).1 M);exact yT _ _ _
theorem qAt(h:qU t=true)(b:LI):qU (prT b t)=true:=by
 obtain⟨K,O,U⟩:=qZ h;obtain⟨g1,g2,g3⟩:=qGE (t:=t) b;show ql (shr t.vs b) (prR b t) (zF (prR b t).length)=true;generalize prR b t=R at *;unfold ql;rw[bV,bV,bV,dE,dE];refine⟨⟨⟨qAs (Q7 (xJ K)) λx M=>ZM K (uI M),Oo⟩,ur λi hi=>?_⟩,xg _⟩;have I:∀{i:Nat} (hi:i<R.length),R.getD i []=R[i]:=λ{i} hi=>by rw[gD,gE hi];rfl
 unfold rowAt;rw[bV,Bool.or_eq_true,dE,dE,dE];refine⟨by rw[I hi,g3 _ (gM hi)],?_⟩;by_cases e:i=0;exact Or.inl e;refine Or.inr ?_;rw[I hi,I (show i-1<R.length by omega)];exact List.pairwise_iff_getElem.1 g1 (i-1) i Oo hi Oo
theorem qE0(V:zg k (tl.map TbV.vs)=true)(hs:qV b=true)(hb:zf k b=true):vrJ (zO tl b)=b:=by
 refine YH (X9 _ _) (xJ hs) λx=>⟨λK=>?_,λK=>?_⟩;obtain⟨i,-,I,rfl⟩:=yX.1 K;unfold qj at I;obtain⟨t,M,O⟩:=List.any_eq_true.1 I;obtain⟨s,-,rfl⟩:=List.mem_map.1 M;exact vC (of_decide_eq_true O);have I:=(Y5 V hs hb).2;unfold x9 at I;rw[aT]at I;have O:=I x K;obtain⟨h3,h4⟩:=ZM hs K;obtain⟨e,he,h5⟩:=List.any_eq_true.1 O;obtain⟨t,M,rfl⟩:=List.mem_map.1 he;have U:x∈shr t.vs b:=List.mem_filter.2 ⟨of_decide_eq_true h5,decide_eq_true K⟩;refine yX.2 ⟨x.toNat,Oo,?_,Oo⟩;unfold qj;refine List.any_eq_true.2 ⟨prT b t,List.mem_map.2 ⟨t,List.mem_filter.2 ⟨M,decide_eq_true (List.length_pos_of_mem U)⟩,rfl⟩,decide_eq_true ?_⟩;rw[show((x.toNat:Nat):Int)=x by omega];exact U
theorem qE1(K:tl.all qU=true)(I:zg k (tl.map TbV.vs)=true)(hb:za k b=true):okJ (zO tl b) b=true:=by
 unfold za at hb;rw[bV,bV]at hb;have M:=vJ (yR I).2.2;rw[lM]at M;unfold okJ;rw[bV,bV,dE];refine⟨⟨by have:=kS tl b;omega,aT.2 λt h=>?_⟩,xZ.2 (by rw[qE0 I hb.1.2 hb.2])⟩;obtain⟨s,hs,rfl⟩:=List.mem_map.1 h;exact qAt (aT.1 K s (List.mem_filter.1 hs).1) b
def bgR(tl:List TbV)(b:LI):LL:=qu (zO tl b) b
def bgT(tl:List TbV)(b:LI):TbV:=⟨b,bgR tl b,zF (bgR tl b).length⟩
def bgV(tl:List TbV)(b:LI):Int:=qw (zO tl b) b
def qe(k:Int)(tl:List TbV)(bs:LL)(ps hs:LI)(ws:List (Int×Int))(x:Int×Int):Bool:=tl.all qU&&zM k (tl.map TbV.vs) bs ps hs ws x
def yq(k:Int)(tl:List TbV)(bs:LL)(ps hs:LI)(ws:List (Int×Int))(x:Int×Int):Bool:=qe k tl bs ps hs ws x&&bs.all λb=>decide (0<=bgV tl b)
def xe(k:Int)(tl:List TbV)(bs:LL)(ps hs:LI)(ws:List (Int×Int))(x:Int×Int):List TbV:=if yq k tl bs ps hs ws x then bs.map (bgT tl) else []
def zW(k:Int)(tl:List TbV)(bs:LL)(ps hs:LI)(ws:List (Int×Int))(x:Int×Int):Int:=if yq k tl bs ps hs ws x then (bs.map (bgV tl)).sum else -1
theorem qp{ps hs:LI}{ws:List (Int×Int)}{x:Int×Int}(h:qe k tl bs ps hs ws x=true):tl.all qU=true/\zg k (tl.map TbV.vs)=true/\bs.length<=12/\tl.length<=7/\∀i,i<bs.length->za k (bs.getD i [])=true/\qV (bs.getD i [])=true:=by
 unfold qe zM at h;rw[bV,bV,bV,bV,bV,bV]at h;obtain⟨U,⟨⟨⟨⟨M,I⟩,-⟩,-⟩,-⟩,-⟩:=h;have O:=vJ (yR M).2.2;rw[lM]at O;unfold yH at I;rw[bV,dE,aT]at I;refine⟨U,M,I.1,O,λi hi=>?_⟩;have K:=I.2 (bs.getD i []) (by rw[gD,gE hi];exact gM hi);refine⟨K,?_⟩;unfold za at K;rw[bV,bV]at K;exact K.1.2
theorem Yd:qw tl o<=60000:=by
 unfold qw;by_cases h:okJ tl o&&smJ tl o o.length;rw[if_pos h];rw[bV]at h;have I:=h.1;unfold okJ at I;rw[bV]at I;have K:=(xZ.1 I.2).length_eq;have M:=ZT tl;have O:=Jj h.2;omega;rw[if_neg h];omega
theorem Ye:-1<=qw tl o:=by
 unfold qw;split <;> omega
def zz(tl:List TbV)(bs:LL)(j:Nat):Int:=((bs.take j).map (bgV tl)).sum
theorem QV(I:j<bs.length):zz tl bs (j+1)=zz tl bs j+bgV tl (bs.getD j []):=by
 unfold zz;rw[tA,gE I,mA,List.sum_append,gD,gE I];simp
theorem Yf(tl:List TbV)(bs:LL):∀j,j<=bs.length->-1*(j:Int)<=zz tl bs j/\zz tl bs j<=60000*(j:Int)
 |0,_=>by simp[zz]
 |j+1,h=>by
  have I:=Yf tl bs j Oo;rw[QV Oo];have K:bgV tl (bs.getD j [])<=60000:=Yd;have M:-1<=bgV tl (bs.getD j []):=Ye;omega
section
variable {k:Int} {tl:List TbV} {bs:LL} {ps hs:LI} {ws:List (Int×Int)} {x:Int×Int}
theorem qEo(h:qe k tl bs ps hs ws x=false):xe k tl bs ps hs ws x=[]/\zW k tl bs ps hs ws x=-1:=by
 unfold xe zW yq;rw[h,Bool.false_and];exact⟨rfl,rfl⟩
theorem qCT(I:j<bs.length)(h:bgV tl (bs.getD j [])<0):xe k tl bs ps hs ws x=[]/\zW k tl bs ps hs ws x=-1:=by
 have e:(bs.all λb=>decide (0<=bgV tl b))=false:=by
  rw[List.all_eq_false];refine⟨bs.getD j [],by rw[gD,gE I];exact gM I,?_⟩;rw[decide_eq_false Oo];decide
 unfold xe zW yq;rw[e,Bool.and_false];exact⟨rfl,rfl⟩
theorem qCU(h:qe k tl bs ps hs ws x=true)(hv:∀i,i<bs.length->0<=bgV tl (bs.getD i [])):xe k tl bs ps hs ws x=bs.map (bgT tl)/\zW k tl bs ps hs ws x=zz tl bs bs.length:=by
 have e:(bs.all λb=>decide (0<=bgV tl b))=true:=by
  rw[aT];intro b hb;obtain⟨i,hi,rfl⟩:=gO hb;have:=hv i hi;rw[gD,gE hi]at this;exact decide_eq_true this
 unfold xe zW yq zz;rw[e,h,tL];exact⟨rfl,rfl⟩
end
theorem VW(I:j<bs.length):(bs.take (j+1)).map (bgT tl)=(bs.take j).map (bgT tl)++[bgT tl (bs.getD j [])]:=by
 rw[tA,gE I,mA,gD,gE I];rfl
theorem XS(w:World)(v0 v1 v2:Value)(ad:Addr)(cv:Nat)(vs:LI)(rows:LL)(ws vars:LI)(h:IT w v0 v1 v2 vs rows ws)(hv:IS w (.slice (some ad) vars.length cv) vars)(k8:vars.length<=1000)(n3:vs.length<=1000)(hn:rows.length<=100000)(e5:∀r∈rows,r.length=vs.length):
 Cl 45 #[.agg #[v0,v1,v2],.slice (some ad) vars.length cv] w λe w'=>∃x0 x1 x2,e=.returned (.agg #[x0,x1,x2])/\Fz w.1.size (λW=>IT W x0 x1 x2 vars (srt (rows.map (qI vs vars))) (zF (srt (rows.map (qI vs vars))).length)) w'/\Bl w w':=by
 obtain⟨iS,hj,k9,l1,l3⟩:=info_parts Tryz.infoIS;obtain⟨i0,hi,h4,h5,h6⟩:=info_parts Tryz.infoInt;obtain⟨W1,a4⟩:=Ex ((w.alloc (.cells #[v0,v1,v2] 61)).alloc (.cells #[sn,sn,sn] 61));have f8:Bl w W1:=by rw[a4];exact(aK).alloc Ss _
 have h8:Hh (TX W1 w.1.size v0 v1 v2):=ay (by rw[a4];exact(TX.made _ _ _ _).below (aK));have h9:Hh (TX W1 (w.1.size+1) sn sn sn):=ay (by
  rw[a4];have:=TX.made (w.alloc (.cells #[v0,v1,v2] 61)) sn sn sn;rw[World.size_alloc]at this;exact this)
 have HI:Hh (∀W,Bl w W->IT W v0 v1 v2 vs rows ws/\IS W (.slice (some ad) vars.length cv) vars):=ay λW hW=>⟨h.below hW,hv.below hW⟩;have l4:=ay f8;obtain⟨a0,c0,e0,-⟩:=h.vs;obtain⟨a1,c1,e1,i3⟩:=h.rows;obtain⟨a2,c2,e2,-⟩:=h.ws;subst e0 e1 e2;have HC:Hh (∀W,Bl w W->∀j,j<rows.length->∃(b o:Nat) (u:Value),a1=some (az b o)/\W.cell? (az b (o+j))=some u/\IS W u (rows.getD j [])):=ay λW hW j hj=>by
  rcases i3 with h0|⟨b,o,rfl,hq⟩;omega;obtain⟨u,h1,h2⟩:=hq j hj;exact⟨b,o,u,rfl,(hW.cell (bL w _ h1)).trans h1,h2.below hW⟩
 have KV:Hh (∀W u j,Bl w W->j<rows.length->IS W u (rows.getD j [])->Cl 63 #[.agg #[.slice a0 vs.length c0,.slice a1 rows.length c1,.slice a2 ws.length c2],u,.slice (some ad) vars.length cv] W λe w'=>∃v,e=.returned v/\w'.ownsRow W.1.size 3 1 v (qI vs vars (rows.getD j [])).length ((qI vs vars (rows.getD j [])).map ai)/\Bl W w'):=ay λW u j hW hj hu=>
  kL W _ _ _ u _ vs (rows.getD j []) vars rows.length ws.length ⟨_,_,rfl⟩ ⟨_,_,rfl⟩ (HI.o W hW).1.vs hu (HI.o W hW).2 Oo (e5 _ (by rw[gD,gE hj];exact gM _)) k8
 have HP:Hh (∀j,j<rows.length->(rows.take (j+1)).map (qI vs vars)=(rows.take j).map (qI vs vars)++[qI vs vars (rows.getD j [])]):=ay λj hj=>by
  rw[tA,gE hj,gD,gE hj,mA];rfl
 have d5:Hh (∀j,j<=rows.length->((rows.take j).map (qI vs vars)).length=j):=ay λj hj=>by rw[lM,bW];omega
 have f9:Hh ((rows.take rows.length).map (qI vs vars)=rows.map (qI vs vars)):=ay (by rw[tL]);have HM:Hh (∀r∈rows.map (qI vs vars),r.length<=1099511627776):=ay λr hr=>by
  obtain⟨q,-,rfl⟩:=List.mem_map.1 hr;rw[yT];omega
 have i4:W1.1.size=w.1.size+2:=by rw[a4];simp
 have a5:Hh (Bl w (W1.alloc (.cells #[] 24))/\RQ (W1.alloc (.cells #[] 24)) w.1.size (.slice (some (az (w.1.size+2) 0)) 0 0) [] []/\TX (W1.alloc (.cells #[] 24)) w.1.size (.slice a0 vs.length c0) (.slice a1 rows.length c1) (.slice a2 ws.length c2)/\TX (W1.alloc (.cells #[] 24)) (w.1.size+1) sn sn sn):=ay (by
  have hA:Bl W1 (W1.alloc (.cells #[] 24)):=(bJ _ _).alloc (nR _) _;refine⟨bt f8 hA,⟨?_,rfl,λi hi=>by simp at hi,λi j _ hj=>by simp at hj⟩,h8.o.below hA,h9.o.below hA⟩;have:=oM W1 (e:=24) (size:=1) (base:=w.1.size) #[] 0 Oo Dd rfl;rw[i4]at this;exact this)
 clear i3 h hv e5 f8 h8 h9 l4;obtain⟨n,i5⟩:=Ex rows.length;rw[<-i5]at HC KV HP d5 f9 a5 hn a4 ⊢;clear i5;generalize vs.length=l0 at *;generalize ws.length=l2 at *;go_enter Tryz.func45,Tryz.ntmps45;go_upto_region 1 with fail;rw[<-a4];clear a4;go_upto_region 2 with fail;clear i4;generalize W1.alloc (.cells #[] 24)=W2 at *;have d1:=a5.o.2.2.1.c1;go_wp2_with fail;clear d1;go_loopw [5,13] (λu t wr=>∃(j:Nat) (vo:Value),j<=n/\t=ai j/\vo=u/\Hh (∃uo,Bl w wr/\RQ wr w.1.size vo uo ((rows.take j).map (qI vs vars))/\TX wr w.1.size (.slice a0 l0 c0) (.slice a1 n c1) (.slice a2 l2 c2)/\TX wr (w.1.size+1) sn sn sn)) (λ_ t _=>n-(intOf t).toNat);exact⟨0,_,nZ _,rfl,rfl,ay ⟨[],a5.o.1,a5.o.2.1,a5.o.2.2.1,a5.o.2.2.2⟩⟩;clear a5;obtain⟨j,vo,l5,rfl,rfl,HT⟩:=hrel;obtain⟨uo,hB,hQ,hT,i6⟩:=HT.o;have HQ:=ay hQ;have HB:=ay hB;have HX:=ay hT;have d6:=ay i6;clear HT hQ hB hT i6;by_cases d7:j<n
 ·have i1:(j:Int)<(n:Int):=Oo;obtain⟨b,o,u,ea,e1,hu⟩:=HC.o wr HB.o j d7;subst ea;have i7:=ay (KV.o wr u j HB.o d7 hu);have l6:=ay (HP.o j d7);have b8:=d5.o j l5;have d0:=HX.o.c0;have d1:=HX.o.c1;have d2:=HX.o.c2;obtain⟨au,cu,rfl,-⟩:=hu;generalize (rows.getD j []).length=lr at *;generalize qI vs vars (rows.getD j [])=pr at *;go_wp2_with fail;refine i7.o.mono ?_;rintro e w2 ⟨v2,rfl,d8,b9⟩;have i8:=ay (HQ.o.below b9);have i9:=ay (bt HB.o b9);have l7:=ay (HX.o.below b9);have j0:=ay (d6.o.below b9);have l8:=ay (qF d8 HB.o.size);have l9:Hh (∀i,i<((rows.take j).map (qI vs vars)).length->∀g,(uo.getD i undef).ownBlock=some g->v2.ownBlock≠some g):=ay λi hi g h1 h2=>by
   have a1:=((HQ.o.each i hi).lt g h1).2;have a2:=(d8.lt g h2).1;omega
  obtain⟨a3,k3,e3⟩:=qg d8;subst e3;have m0:=i9.o.size;clear d8 b9 i7 e1 HQ HB HX d6 d0 d1 d2;have j1:w2.ownsRow w.1.size 24 1 vo j uo:=by have:=i8.o.own;rw[b8]at this;exact this
  have d9:=ay j1;clear j1;go_wp2_with (first|(at_builtin;refine wpList_append_lies _ rfl _ _ 23 rfl w.1.size 24 iS sn 1 24 Tryz.underlying23 hj k9 l1 l3 rfl Dd vo _ uo rfl (d9.o.alloc _) (az _ 0) 1 1 [.slice a3 pr.length k3] rfl rfl (qH _ _ _) (λu hu=>by simp at hu;subst hu;rfl) Dd Um Oo Sy _ rfl ?_;intro g3 cp3 w3 K I c7 c8)|fail);have HN:Hh (∃m1,Bl w w3/\RQ w3 w.1.size (.slice (some (az g3 0)) (j+1) cp3) m1 ((rows.take (j+1)).map (qI vs vars))/\TX w3 w.1.size (.slice a0 l0 c0) (.slice (some (az b o)) n c1) (.slice a2 l2 c2)/\TX w3 (w.1.size+1) sn sn sn):=ay ⟨_,(i9.o.alloc m0 _).grown I Sy (λq hq=>(d9.o.lt q hq).1),by rw[l6.o];exact i8.o.step l8.o l9.o (by rw[b8];exact K) I,l7.o.grown d9.o Dd I,j0.o.grown d9.o Dd I⟩;clear K I c7 c8;go_roundw;exact⟨j+1,_,Oo,Gg,rfl,HN⟩;exact Im
 obtain rfl:j=n:=Oo;have i1:¬((j:Int)<(j:Int)):=Oo;have b8:=d5.o j (nR _);rw[f9.o]at HQ b8;clear HC KV HP d5 f9 HX;obtain⟨b,o,eb,g4⟩:∃b o,(0<vars.length->ad=(az b o))/\∀q,q<vars.length->wr.cell? (az b (o+q))=some (ai (vars.getD q 0)):=by
  obtain⟨a',c',e,hh⟩:=(HI.o wr HB.o).2;simp only[Value.slice.injEq]at e;obtain⟨rfl,-,-⟩:=e;rcases hh with h0|⟨b,o,e,hh⟩;exact⟨0,0,λh=>Oo,λq hq=>Oo⟩;exact⟨b,o,λ_=>Option.some.inj e,hh⟩
 have e8:(wr.alloc (.cells #[] 3)).ownsRow wr.1.size 3 1 (.slice (some (az wr.1.size 0)) 0 0) 0 []:=oM wr #[] 0 (nR _) Dd rfl;have g5:Bl wr (wr.alloc (.cells #[] 3)):=(bJ _ _).alloc (nR _) _;have c9:∀q u,(vars.map ai)[q]?=some u->(wr.alloc (.cells #[] 3)).cell? (ad.add q)=some u:=λq u hu=>by
  have hq:q<vars.length:=by
   rcases Nat.lt_or_ge q vars.length with h|h;exact h;rw[gN (by simpa using h)]at hu;cases hu
  rw[eb Oo,show(((az b o):Addr).add q)=(az b (o+q))by unfold Addr.add;split <;> simp_all,g5.cell (p:=(az b (o+q))) (bL wr _ (g4 q hq)),g4 q hq,<-hu,bK,gD,gE hq];rfl
 have j2:=ay c9;have g6:=ay e8;have j3:=ay g5;clear c9 g4 eb e8 g5 HI;generalize wr=W5 at *;go_wp2_with (first|(at_builtin;refine wpList_append_own _ rfl _ _ 24 rfl W5.1.size 3 i0 (ai 0) 1 8 Tryz.underlying24 hi h4 h5 h6 rfl Dd (.slice (some (az W5.1.size 0)) 0 0) 0 [] rfl g6.o ad vars.length cv (vars.map ai) rfl (by rw[lM];omega) j2.o (λu hu=>by obtain⟨x,_,rfl⟩:=List.mem_map.1 hu;rfl) Um Oo Ss ?_;intro v6 w6 d3 b0 _)|fail);have e4:Bl W5 w6:=j3.o.grown b0 Ss (λk hk=>(g6.o.lt k hk).1);have U:=ay (HQ.o.below e4);have g7:=ay (bt HB.o e4);have V:=ay (d6.o.below e4);have g8:Hh (w6.ownsRow w.1.size 3 1 v6 vars.length (vars.map ai)):=ay (qF (by simpa using d3) HB.o.size);obtain⟨a6,k6,e6⟩:=qg g8.o;subst e6;have KS:=ay (uj (λu=>∀k,u.ownBlock=some k->w.1.size<=k/\k≠w.1.size+1) w6 _ w6 vo uo (rows.map (qI vs vars)) (nR _) (bJ _ _) ⟨U.o.rs.sl,U.o.rs.len,λi hi=>⟨U.o.rs.each i hi,λk hk=>⟨((U.o.each i hi).lt k hk).1,by rintro rfl;exact own_ne (U.o.each i hi) V.o.typ Dd hk.symm⟩⟩⟩ Oo HM.o);have j4:=xT _ (rows.map (qI vs vars)) (nR _);rw[b8]at j4;generalize hR:srt (rows.map (qI vs vars))=R at *;have m2:=ay hR;clear hR;have j5:Hh (∀g,vo.ownBlock=some g->∃cur,w6.1[g]?=some (.cells cur 24 (0,0))):=ay λg hg=>qN U.o.own hg;clear e4 d3 b0 g6 j3 j2 HQ HB d6 HM;refine KS.o.mono ?_;rintro e O ⟨v7,n4,rfl,e9,g9,d4⟩;have m3:=ay (bt g7.o d4);have f7:=ay (V.o.below d4);have m4:=ay (qB g8.o d4);have m5:Hh (∀g,v7.ownBlock=some g->w.1.size<=g):=ay λg hg=>by
  rcases g9 with h1|h1;rw[h1]at hg;exact(U.o.own.lt g hg).1;exact bM g7.o.size (h1 g hg)
 have m6:Hh (v7.ownBlock≠some (w.1.size+1)):=ay λe=>by
  rcases g9 with h1|h1;rw[h1]at e;obtain⟨cur,hc⟩:=j5.o _ e;rw[V.o.blk]at hc;simp at hc;have:=h1 _ e;have:=V.o.lt;omega
 have m7:=ay (e9.fx d4 λk hk=>⟨m5.o k hk,by rintro rfl;exact m6.o hk⟩);obtain⟨⟨a7,k7,e7,-,-⟩,-,-⟩:=e9;subst e7;clear d4 KS U g7 V g8 j5 g9;go_upto_region 8 with fail;have j6:Hh (Bl O (O.alloc (.cells #[.slice a6 vars.length k6,.slice a7 R.length k7,sn] 61))):=ay (aK);have k0:=ay (TX.made O (.slice a6 vars.length k6) (.slice a7 R.length k7) sn);have n5:w.1.size+1<O.1.size:=f7.o.lt;have b1:Hh (Bl O (O.alloc (.cells #[.slice a6 vars.length k6,.slice a7 R.length k7,sn] 61))/\TX (O.alloc (.cells #[.slice a6 vars.length k6,.slice a7 R.length k7,sn] 61)) O.1.size (.slice a6 vars.length k6) (.slice a7 R.length k7) sn/\(O.alloc (.cells #[.slice a6 vars.length k6,.slice a7 R.length k7,sn] 61)).ownsRow O.1.size 3 1 sn 0 (List.replicate 0 (ai 1))):=ay ⟨j6.o,k0.o,oN _ _ _ _⟩;clear j6 k0;generalize O.alloc (.cells #[.slice a6 vars.length k6,.slice a7 R.length k7,sn] 61)=W8 at *;have d1:=b1.o.2.1.c1;obtain⟨r,hr⟩:=Ex R.length;have k1:=ay hr;rw[<-hr]at b1 d1 j4 ⊢;clear hr;go_wp2_with fail;clear d1;go_loopw [34] (λt wr=>∃(q:Nat),q<=r/\t=ai q/\Hh (∃vw,Bl O wr/\TX wr O.1.size (.slice a6 vars.length k6) (.slice a7 r k7) vw/\wr.ownsRow O.1.size 3 1 vw q (List.replicate q (ai 1)))) (λt _=>r-(intOf t).toNat);exact⟨0,nZ _,rfl,ay ⟨_,b1.o.1,b1.o.2.1,b1.o.2.2⟩⟩;clear b1;obtain⟨q,n6,rfl,HT⟩:=hrel;obtain⟨vw,hB,hX,hO⟩:=HT.o;have b7:=ay hB;have a8:=ay hX;have a9:=ay hO;clear HT hB hX hO;by_cases d7:q<r
 ·have i2:(q:Int)<(r:Int):=Oo;have d2:=a8.o.c2;have m8:=b7.o.size;generalize wr=W9 at *;go_wp2_with (first|(at_builtin;refine wpList_append_lies _ rfl _ _ 24 rfl O.1.size 3 i0 (ai 0) 1 8 Tryz.underlying24 hi h4 h5 h6 rfl Dd vw _ _ rfl (a9.o.alloc _) (az _ 0) 1 1 [ai 1] rfl rfl (qH _ _ _) (λu hu=>by simp at hu;subst hu;rfl) Dd Um Oo Sy _ rfl ?_;intro g3 cp3 w3 K I c7 c8;have m9:=(a8.o.grown a9.o Dd I).c2;have n1:=(a8.o.grown a9.o Dd I).free 2)|fail);have k2:=ay (a8.o.grown a9.o Dd I);have HN:Hh (∃k4,Bl O (w3.setCell (az O.1.size 2) (.slice (some (az g3 0)) (q+1) cp3))/\TX (w3.setCell (az O.1.size 2) (.slice (some (az g3 0)) (q+1) cp3)) O.1.size (.slice a6 vars.length k6) (.slice a7 r k7) k4/\(w3.setCell (az O.1.size 2) (.slice (some (az g3 0)) (q+1) cp3)).ownsRow O.1.size 3 1 k4 (q+1) (List.replicate (q+1) (ai 1))):=ay ⟨_,((b7.o.alloc m8 _).grown I Sy (λk hk=>(a9.o.lt k hk).1)).setCell (nR _) _,k2.o.set2 _,qL (by rw[List.replicate_succ'];exact K) k2.o.typ Dd⟩;clear K I c7 c8 m9 n1 d2;go_roundw;exact⟨q+1,Oo,Gg,HN⟩;exact Im
 obtain rfl:q=r:=Oo;have i2:¬((q:Int)<(q:Int)):=Oo;obtain⟨aw,kw,ew⟩:=qg a9.o;subst ew;have d0:=a8.o.c0;have d1:=a8.o.c1;have d2:=a8.o.c2;have M:=ay (f7.o.below b7.o);have f0:=M.o.free 0;have f1:=M.o.free 1;have f2:=M.o.free 2;have r0:=M.o.c0;have r1:=M.o.c1;have r2:=M.o.c2;have k5:Hh (∀x0 x1 x2,Fz w.1.size (λW=>IT W (.slice a6 vars.length k6) (.slice a7 q k7) (.slice aw q kw) vars R (zF R.length)) (((wr.setCell (az (w.1.size+1) 0) x0).setCell (az (w.1.size+1) 1) x1).setCell (az (w.1.size+1) 2) x2)):=ay λx0 x1 x2 W' n2=>by
  have hX:=M.o;have hK:∀k,w.1.size<=k->k<wr.1.size->k≠w.1.size+1->W'.1[k]?=wr.1[k]?:=λk h1 h2 h3=>by
   rw[n2 k h1 (by simp only[World.size_setCell];exact h2),bD _ _ _ _ (by exact h3),bD _ _ _ _ (by exact h3),bD _ _ _ _ (by exact h3)]
  have ho:∀{B n:Nat} {v:Value} {xs:List Value},wr.ownsRow B 3 1 v n xs->w.1.size<=B->W'.ownsRow B 3 1 v n xs:=λ{B n v xs} h hB=>qC h λg hg=>hK g (bM hB (h.lt g hg).1) (h.lt g hg).2 (by rintro rfl;exact own_ne h hX.typ Dd hg.symm);rw[<-k1.o];refine⟨qS (ho (qB m4.o b7.o) (nR _)),?_,?_⟩;have h7:=m7.o.below b7.o;rw[<-k1.o]at h7;exact h7 W' hK;have:=qS (l:=zF q) (by rw[xg,vB];exact ho a9.o Oo);exact this
 go_wp2_with fail;refine bodyPost_ret (v:=.agg #[.slice a6 vars.length k6,.slice a7 q k7,.slice aw q kw]) (by simp[results,Tryz.results45,go_sem,r0,r1,r2]) rfl ⟨_,_,_,rfl,by rw[m2.o];exact k5.o _ _ _,?_⟩;exact(((bt m3.o b7.o).setCell (Nat.le_succ _) _).setCell (Nat.le_succ _) _).setCell (Nat.le_succ _) _
structure KX(W:World)(B p:Nat)(v0 v1 v2:Value)(us:List Value)(vs:LI)(rows:LL)(ws:LI):Prop where
 tx:TX W p v0 v1 v2
 tq:TQ W B v0 v1 v2 us vs rows ws
 lo:B<=p
section
variable {W W' w3:World} {B p:Nat} {v0 v1 v2 v' u:Value} {us:List Value} {vs ws l:LI} {rows:LL} {o:Obj} {x:Int}
theorem KX.below(h:KX W B p v0 v1 v2 us vs rows ws)(hb:Bl W W'):KX W' B p v0 v1 v2 us vs rows ws:=⟨h.tx.below hb,h.tq.below hb,h.lo⟩
theorem TX.set1(h:TX W p v0 v1 v2)(y:Value):TX (W.setCell (az p 1) y) p v0 y v2:=⟨by rw[bI _ _ _ _ _ _ h.blk];rfl⟩
theorem KX.pushR(h:KX W B p v0 v1 v2 us vs rows ws)(hu:W.ownsRow B 3 1 u l.length (l.map ai))(hr:∀i,i<rows.length->∀g,(us.getD i undef).ownBlock=some g->u.ownBlock≠some g)(h0:Ap' u v0)(h2:Ap' u v2)
 (I:w3.ownsRow B 24 1 v' (rows.length+1) (us++[u])) (O:(W.alloc o).grownBy w3 v1.ownBlock):KX (w3.setCell (az p 1) v') B p v0 v' v2 (us++[u]) vs (rows++[l]) ws:=by
 have M:TX w3 p v0 v1 v2:=h.tx.grown h.tq.rq.own Dd O;have hint:∀{y:Value} {k:Nat} {xs:List Value},W.ownsRow B 3 1 y k xs->w3.ownsRow B 3 1 y k xs:=λU=>
  qC U λg K=>zR O (U.lt g K).2 (own_ne h.tq.rq.own (qN U K) Dd)
 have hl:=h.tq.rq.len;have V:∀i,i<rows.length->(us++[u]).getD i undef=us.getD i undef:=λi hi=>by rw[gD,aL Oo,<-gD]
 have e2:(us++[u]).getD rows.length undef=u:=by rw[gD,bQ Oo,show rows.length-us.length=0 by omega];rfl
 refine⟨M.set1 _,⟨qL (hint h.tq.o0) M.typ Dd,(h.tq.rq.step hu hr I O).set M.typ,qL (hint h.tq.o2) M.typ Dd,h.tq.a02,λi hi=>?_,λi hi=>?_⟩,h.lo⟩
 ·rw[lA,lS]at hi;by_cases e:i<rows.length;rw[V i e];exact h.tq.a0 i e;obtain rfl:i=rows.length:=Oo;rw[e2];exact h0
 rw[lA,lS]at hi;by_cases e:i<rows.length;rw[V i e];exact h.tq.a2 i e;obtain rfl:i=rows.length:=Oo;rw[e2];exact h2
theorem KX.pushW(h:KX W B p v0 v1 v2 us vs rows ws)(K:w3.ownsRow B 3 1 v' (ws.length+1) (ws.map ai++[ai x]))(U:(W.alloc o).grownBy w3 v2.ownBlock)(V:∀g,v'.ownBlock=some g->v2.ownBlock=some g∨W.1.size<=g):
 KX (w3.setCell (az p 2) v') B p v0 v1 v' us vs rows (ws++[x]):=by
 have M:TX w3 p v0 v1 v2:=h.tx.grown h.tq.o2 Dd U;have ap:∀{y:Value} {k:Nat} {xs:List Value},W.ownsRow B 3 1 y k xs->Ap' y v2->Ap' y v':=λO ha g h1 h2=>by
  rcases V g h2 with h3|h3;exact ha g h1 h3;have:=(O.lt g h1).2;omega
 have hint:∀{y:Value} {k:Nat} {xs:List Value},W.ownsRow B 3 1 y k xs->Ap' y v2->w3.ownsRow B 3 1 y k xs:=λO ha=>
  qC O λg I=>zR U (O.lt g I).2 (λe=>ha g I e.symm)
 refine⟨M.set2 _,⟨qL (hint h.tq.o0 h.tq.a02) M.typ Dd,⟨?_,h.tq.rq.len,λi hi=>qL (hint (h.tq.rq.each i hi) (h.tq.a2 i hi)) M.typ Dd,h.tq.rq.ap⟩,?_,ap h.tq.o0 h.tq.a02,h.tq.a0,λi hi=>ap (h.tq.rq.each i hi) (h.tq.a2 i hi)⟩,h.lo⟩;refine qL (qC h.tq.rq.own λg I=>zR U (h.tq.rq.own.lt g I).2 (own_ne h.tq.o2 (qN h.tq.rq.own I) Dd)) M.typ Dd;refine qL ?_ M.typ Dd;rw[lA,lS,mA];exact K
theorem KX.made(hv:W.ownsRow B 3 1 v0 vs.length (vs.map ai))(hB:B<=W.1.size):KX (W.alloc (.cells #[v0,sn,sn] 61)) B W.1.size v0 sn sn [] vs [] []:=
 ⟨TX.made _ _ _ _,⟨hv.alloc _,⟨oN _ _ _ _,rfl,λi hi=>by simp at hi,λi j _ I=>by simp at I⟩,oN _ _ _ _,λg _ h=>by simp[Value.ownBlock]at h,λi hi=>by simp at hi,λi hi=>by simp at hi⟩,hB⟩
end
theorem qFr(w:World)(vr:Value)(q:LI)(M:IS w vr q)(O:q.length<=1000):
 Cl 82 #[.pointer none,vr] w λe w'=>e=.returned (.bool false)/\w'=w:=by
 obtain⟨ar,U,rfl,K⟩:=M;rcases Nat.eq_zero_or_pos q.length with I|I
 ·rw[I];clear K;go_enter Tryz.func82,Tryz.ntmps82;go_wp2_with fail;go_loop [0,9] (λu t=>u=.pointer none/\t=ai 0) (λ_ _=>0);exact⟨rfl,rfl⟩;obtain⟨rfl,rfl⟩:=hrel;go_wp2_with fail;go_ret;exact⟨rfl,rfl⟩
 rcases K with V|⟨b,o,rfl,h⟩;omega;have c1:w.cell? (az b o)=some (ai (q.getD 0 0)):=h 0 I;have i1:(0:Int)<(q.length:Int):=Oo;clear h;generalize q.getD 0 0=x at *;generalize q.length=n at *;go_enter Tryz.func82,Tryz.ntmps82;go_wp2_with fail;go_loop [0,9] (λu t=>u=.pointer none/\t=ai 0) (λ_ _=>0);exact⟨rfl,rfl⟩;obtain⟨rfl,rfl⟩:=hrel;go_wp2_with fail;go_ret;exact⟨rfl,rfl⟩
def TC(W0 W:World)(keys:LL)(c:Option Addr):Prop:=keys=[]/\c=none∨keys≠[]/\∃root,c=some (az root 0)/\TS W0 W keys keys.length root
theorem TC.has{W0 w4:World}{keys:LL}{c:Option Addr}{L:Nat}(h:TC W0 w4 keys c)(K:Bl w4 W)(hl:∀r∈keys,r.length=L)(hn:keys.length<=100000)(M:L<=1000){vr:Value}{q:LI}(I:IS W vr q)(hq:q.length=L):
 Cl 82 #[.pointer c,vr] W λe w'=>e=.returned (.bool (decide (q∈keys)))/\Bl W w':=by
 rcases h with ⟨rfl,rfl⟩|⟨O,root,rfl,D,N,f,g0,g1,U,V,hf,hk,-⟩;refine(qFr W vr q I Oo).mono ?_;rintro e w' ⟨rfl,rfl⟩;exact⟨Ss,bJ _ _⟩;rw[<-hf];exact qDX W _ D N f g0 g1 keys L vr q U (V.below K) (λp hp=>by have:=hk p hp;omega) hl O I hq M
theorem TQ.base{B B':Nat}{v1 v2:Value}{us:List Value}{vs ws:LI}(h:TQ W B v0 v1 v2 us vs rows ws)(hB:B'<=B):TQ W B' v0 v1 v2 us vs rows ws:=
 ⟨qF h.o0 hB,h.rq.base hB,qF h.o2 hB,h.a02,h.a0,h.a2⟩
theorem qDL(I vb:LI):∀p∈plc (λi=>decide (I.getD i 0∈vb)) I.length,0<=p/\p<(I.length:Int):=λp K=>by
 unfold plc at K;rw[List.mem_map]at K;obtain⟨j,M,e⟩:=K;rw[List.mem_filter,List.mem_range]at M;simp only[Int.ofNat_eq_natCast]at e;omega
def three(w:World)(a0 a1 a2 b0 b1 b2:Value):World:=((w.alloc (.cells #[a0,a1,a2] 61)).alloc (.cells #[b0,b1,b2] 61)).alloc (.cells #[sn,sn,sn] 61)
theorem qEb(w:World)(a0 a1 a2 I K b2:Value):Bl w (three w a0 a1 a2 I K b2)/\TX (three w a0 a1 a2 I K b2) w.1.size a0 a1 a2/\TX (three w a0 a1 a2 I K b2) (w.1.size+1) I K b2/\TX (three w a0 a1 a2 I K b2) (w.1.size+2) sn sn sn:=by
 have M:∀(W:World) (o:Obj),Bl W (W.alloc o):=λW o=>(bJ _ _).alloc (nR _) _;refine⟨bt (bt (M w _) (M _ _)) (M _ _),((TX.made _ _ _ _).below (M _ _)).below (M _ _),?_,?_⟩;have:=(TX.made (w.alloc (.cells #[a0,a1,a2] 61)) I K b2).below (M _ (.cells #[sn,sn,sn] 61));rw[World.size_alloc]at this;exact this;have:=TX.made ((w.alloc (.cells #[a0,a1,a2] 61)).alloc (.cells #[I,K,b2] 61)) sn sn sn;rw[World.size_alloc,World.size_alloc]at this;exact this
def Q6(va vb:LI)(ra rb:LL)(i:Nat):Bool:=VM va vb rb (ra.getD i [])
def xR(a b:TbV):TbV:=⟨a.vs,kpR (Q6 a.vs b.vs a.rows b.rows) a.rows a.rows.length,kpW (Q6 a.vs b.vs a.rows b.rows) a.ws a.rows.length⟩
theorem Agr.symm{a s:LI}(h:Agr a b r s):Agr b a s r:=λv I K=>(h v K I).symm
theorem qEX{I vb:LI}{rb:LL}:VM I vb rb r=true↔∃s∈rb,Agr I vb r s:=by
 unfold VM XV;rw[dE,(zu _ _ (nR _)).2,List.mem_map];refine exists_congr λs=>and_congr_right λ_=>?_;unfold qI;rw[List.map_inj_left];exact⟨λh v K M=>(h v (List.mem_filter.2 ⟨K,decide_eq_true M⟩)).symm,λh v hv=>(h v (uI hv) (vC hv)).symm⟩
theorem YP{rows:LL}{q:LI->Bool}:∀n,n<=rows.length->kpR (λi=>q (rows.getD i [])) rows n=(rows.take n).filter q
 |0,_=>by simp[kpR,kp]
 |n+1,h=>by
  have I:=YP (rows:=rows) (q:=q) n Oo;rw[tA,gE Oo,List.filter_append,<-I,<-gdR (d:=[]) (show n<rows.length by omega)];cases e:q (rows.getD n [])
  rw[Ks rows e];show _=_++List.filter q [rows.getD n []];rw[List.filter_cons,e];simp;rw[qBQ rows e];show _=_++List.filter q [rows.getD n []];rw[List.filter_cons,e];simp
theorem Q4(a b:TbV):(xR a b).rows=a.rows.filter (VM a.vs b.vs b.rows):=by
 show kpR _ a.rows a.rows.length=_;rw[show Q6 a.vs b.vs a.rows b.rows=(λi=>VM a.vs b.vs b.rows (a.rows.getD i [])) from rfl,YP _ (nR _),tL]
theorem yU{b:TbV}:r∈(xR a b).rows↔r∈a.rows/\∃s∈b.rows,Agr a.vs b.vs r s:=by rw[Q4,List.mem_filter,qEX]
structure OneT(t:TbV)(bv:LI):Prop where
 vs:t.vs=bv
 set:qV bv=true
 few:t.rows.length<=10000
 sl:SL t.rows
 len:∀r∈t.rows,r.length=bv.length
 ws:t.ws=zF t.rows.length
theorem qGr(h:qU t=true):SL t.rows:=by
 have O:xt t.rows t.vs.length=true:=by
  unfold qU ql at h;rw[bV,bV]at h;exact h.1.2
 have step:∀i,i<t.rows.length->0<i->qE (t.rows.getD (i-1) []) (t.rows.getD i [])<0:=λi hi V=>by
  unfold xt at O;have I:=aT.1 O i (List.mem_range.2 hi);unfold rowAt at I;rw[bV,Bool.or_eq_true,dE,dE,dE]at I;rcases I.2 with U|U;omega;exact U
 have all:∀j,j<t.rows.length->∀i,i<j->qE (t.rows.getD i []) (t.rows.getD j [])<0:=by
  intro j;induction j with
  |zero=>intro _ i hi;omega
  |succ j ih=>
   intro K i hi;have I:=step (j+1) K Oo;rw[Nat.add_sub_cancel]at I;by_cases e:i=j;rw[e];exact I;exact xE (ih Oo i Oo) I
 refine List.pairwise_iff_getElem.2 λi j hi K M=>?_;have:=all j K i M;rw[gdR hi,gdR K]at this;exact this
theorem OneT.tab{vs:LI}(h:OneT t vs):qU t=true:=by
 unfold qU ql;rw[h.vs,h.ws,bV,bV,bV,dE,dE];refine⟨⟨⟨h.set,h.few⟩,ur λi hi=>?_⟩,xg _⟩;unfold rowAt;rw[bV,Bool.or_eq_true,dE,dE,dE];refine⟨by rw[gdR hi,h.len _ (gM hi)],?_⟩;by_cases e:i=0;exact Or.inl e;refine Or.inr ?_;rw[gdR hi,gdR (show i-1<t.rows.length by omega)];exact List.pairwise_iff_getElem.1 h.sl (i-1) i Oo hi Oo
theorem OneT.sem{b:TbV}{vs:LI}(h:OneT a vs):OneT (xR a b) vs:=by
 have hs:∀r∈(xR a b).rows,r∈a.rows:=λr I=>(yU.1 I).1;refine⟨h.vs,h.set,?_,?_,λr I=>h.len r (hs r I),?_⟩;rw[Q4];exact bM (List.length_filter_le _ _) h.few;rw[Q4];exact h.sl.filter _;show kpW _ a.ws _=zF (kpR _ _ _).length;unfold kpW kpR zF;rw[lM,h.ws];refine List.eq_replicate_iff.2 ⟨lM _,λx K=>?_⟩;obtain⟨i,hi,rfl⟩:=List.mem_map.1 K;have M:=List.mem_range.1 (List.mem_filter.1 hi).1;rw[gdR (by rw[xg];exact M)];unfold zF;rw[List.getElem_replicate]
theorem xh{α:Type}{l:List α}{d x:α}(hi:i<l.length):(l.set i x).getD j d=if j=i then x else l.getD j d:=by
 rw[gD,List.getElem?_set,gD];by_cases e:j=i;subst e;rw[if_pos rfl,if_pos rfl,if_pos hi];rfl;rw[if_neg (λh=>e h.symm),if_neg e]
def upT(par:Nat->Nat)(T:List TbV):Nat->List TbV
 |0=>T
 |n+1=>(upT par T n).set (par n) (xR ((upT par T n).getD (par n) qA) ((upT par T n).getD n qA))
def dnT(par:Nat->Nat)(m:Nat)(T:List TbV):Nat->List TbV
 |0=>T
 |j+1=>(dnT par m T j).set (m-1-j) (xR ((dnT par m T j).getD (m-1-j) qA) ((dnT par m T j).getD (par (m-1-j)) qA))
structure RdS(m:Nat)(B:Nat->LI)(R:Nat->LL)(An:(Int->Int)->Prop)(T:List TbV):Prop where
 len:T.length=m+1
 ok:∀i,i<=m->OneT (T.getD i qA) (B i)
 sub:∀i,i<=m->∀r∈(T.getD i qA).rows,r∈R i
 has:∀f,An f->∀i,i<=m->(B i).map f∈(T.getD i qA).rows
section
variable {m:Nat} {par:Nat->Nat} {B:Nat->LI} {R:Nat->LL} {An:(Int->Int)->Prop} {T:List TbV}
theorem RdS.set(h:RdS m B R An T)(hB:∀i,(B i).Pairwise (·< ·)){p:Nat}(hi:i<=m)(O:p<=m):RdS m B R An (T.set i (xR (T.getD i qA) (T.getD p qA))):=by
 have hl:i<T.length:=by have:=h.len;omega
 refine⟨by rw[List.length_set];exact h.len,λl I=>?_,λl I r K=>?_,λf M l I=>?_⟩
 ·rw[xh hl];split
  ·rename_i e;rw[e];exact(h.ok i hi).sem
  exact h.ok l I
 ·rw[xh hl]at K;split at K
  ·rename_i e;rw[e];exact h.sub i hi r (yU.1 K).1
  exact h.sub l I r K
 rw[xh hl];split
 ·rename_i e;rw[e];refine yU.2 ⟨h.has f M i hi,_,h.has f M p O,?_⟩;rw[(h.ok i hi).vs,(h.ok p O).vs];exact λv I U=>by rw[ZX (hB i) f I,ZX (hB p) f U]
 exact h.has f M l I
def DnR(par:Nat->Nat)(B:Nat->LI)(T:List TbV)(i:Nat):Prop:=∀s∈(T.getD (par i) qA).rows,∃r∈(T.getD i qA).rows,Agr (B i) (B (par i)) r s
def UpR(par:Nat->Nat)(B:Nat->LI)(T:List TbV)(i:Nat):Prop:=∀r∈(T.getD i qA).rows,∃s∈(T.getD (par i) qA).rows,Agr (B i) (B (par i)) r s
theorem YQ(hB:∀i,(B i).Pairwise (·< ·))(K:∀i,i<m->i<par i/\par i<=m)(h:RdS m B R An T):∀n,n<=m->RdS m B R An (upT par T n)/\∀i,i<n->DnR par B (upT par T n) i
 |0,_=>⟨h,λi hi=>Oo⟩
 |n+1,hn=>by
  obtain⟨I,U⟩:=YQ hB K h n Oo;obtain⟨p1,M⟩:=K n Oo;have hl:par n<(upT par T n).length:=by have:=I.len;omega
  refine⟨I.set hB M Oo,λi hi=>?_⟩;show DnR par B ((upT par T n).set (par n) _) i;unfold DnR;intro s hs;obtain⟨q1,q2⟩:=K i Oo;rw[xh hl]at hs;rw[xh hl,if_neg (show ¬i=par n by omega)];by_cases e:i=n;subst e;rw[if_pos rfl]at hs;obtain⟨h3,r,V,O⟩:=yU.1 hs;rw[(I.ok _ M).vs,(I.ok i Oo).vs]at O;exact⟨r,V,O.symm⟩;refine U i Oo s ?_;split at hs
  ·rename_i e2;rw[e2];exact(yU.1 hs).1
  exact hs
theorem Ke(hB:∀i,(B i).Pairwise (·< ·))(U:∀i,i<m->i<par i/\par i<=m)(h:RdS m B R An T)(hd:∀i,i<m->DnR par B T i):∀n,n<=m->RdS m B R An (dnT par m T n)/\(∀i,i<m->DnR par B (dnT par m T n) i)/\∀i,m-n<=i->i<m->UpR par B (dnT par m T n) i
 |0,_=>⟨h,hd,λi I V=>Oo⟩
 |n+1,hn=>by
  obtain⟨I,V,h3⟩:=Ke hB U h hd n Oo;obtain⟨j,hj⟩:=Ex (m-1-n);obtain⟨p1,p2⟩:=U j Oo;have hl:j<(dnT par m T n).length:=by have:=I.len;omega
  have e0:dnT par m T (n+1)=(dnT par m T n).set j (xR ((dnT par m T n).getD j qA) ((dnT par m T n).getD (par j) qA)):=by rw[hj];rfl
  rw[e0];generalize dnT par m T n=T at *;refine⟨I.set hB Oo p2,λi hi=>?_,λi a3 M=>?_⟩
  ·unfold DnR;intro s hs;obtain⟨q1,q2⟩:=U i hi;rw[xh hl]at hs;by_cases e:i=j;subst e;rw[if_neg (show ¬par i=i by omega)]at hs;obtain⟨r,K,O⟩:=V i hi s hs;refine⟨r,?_,O⟩;rw[xh hl,if_pos rfl];refine yU.2 ⟨K,s,hs,?_⟩;rw[(I.ok i Oo).vs,(I.ok _ q2).vs];exact O;rw[xh hl,if_neg e];refine V i hi s ?_;split at hs
   ·rename_i e2;rw[e2];exact(yU.1 hs).1
   exact hs
  unfold UpR;intro r K;obtain⟨q1,q2⟩:=U i M;rw[xh hl]at K;rw[xh hl,if_neg (show ¬par i=j by omega)];by_cases e:i=j;subst e;rw[if_pos rfl]at K;obtain⟨-,s,hs,O⟩:=yU.1 K;rw[(I.ok i Oo).vs,(I.ok _ q2).vs]at O;exact⟨s,hs,O⟩;rw[if_neg e]at K;exact h3 i Oo M r K
theorem qFm(hB:∀i,(B i).Pairwise (·< ·))(K:∀i,i<m->i<par i/\par i<=m)(rip:∀j,j<m->∀l,j<l->l<=m->∀v,v∈B j->v∈B l->v∈B (par j))(V:∀f:Int->Int,(∀l,l<=m->(B l).map f∈R l)->An f)(h:RdS m B R An T)(hi:i<=m):
 OneT ((dnT par m (upT par T m) m).getD i qA) (B i)/\∀r,r∈((dnT par m (upT par T m) m).getD i qA).rows↔∃f,An f/\(B i).map f=r:=by
 obtain⟨h1,h2⟩:=YQ hB K h m (nR _);obtain⟨I,h4,h5⟩:=Ke hB K h1 h2 m (nR _);refine⟨I.ok i hi,λr=>⟨λM=>?_,?_⟩⟩;obtain⟨f,O,U⟩:=qEW (R:=λi=>((dnT par m (upT par T m) m).getD i qA).rows) hB (λi hi r M=>(I.ok i hi).len r M) K rip (λi hi=>h5 i Oo hi) (λi hi=>h4 i hi) m (nR _) i Oo hi r M;exact⟨f,V f λl hl=>I.sub l hl _ (U l Oo hl),O⟩;rintro⟨f,hf,rfl⟩;exact I.has f hf i hi
theorem VG(par:Nat->Nat)(m:Nat)(T:List TbV):∀n,(dnT par m T n).length=T.length
 |0=>rfl
 |n+1=>by
  show(List.set _ _ _).length=_;rw[List.length_set,VG par m T n]
theorem ZZ(par:Nat->Nat)(T:List TbV):∀n,(upT par T n).length=T.length
 |0=>rfl
 |n+1=>by
  show(List.set _ _ _).length=_;rw[List.length_set,ZZ par T n]
end
def upR(k:Nat):LI:=(List.range k).map Int.ofNat
theorem xS(k:Nat):(upR k).length=k:=by simp[upR]
theorem KD(k:Nat):upR (k+1)=upR k++[(k:Int)]:=by unfold upR;rw[List.range_succ,mA];rfl
def orT(top:Int)(ps:LI):LI:=ps.map λx=>if x<0 then top else x
theorem qBG(top:Int)(ps:LI):(orT top ps).length=ps.length:=lM _
theorem QB(w:World)(k:Nat)(hk:k<=1000):
 Cl 52 #[ai (k:Int)] w λe w'=>∃v,e=.returned v/\w'.ownsRow w.1.size 3 1 v (upR k).length ((upR k).map ai)/\Bl w w':=by
 obtain⟨i0,hi,a3,a4,a5⟩:=info_parts Tryz.infoInt;have HP:Hh (∀j,(upR (j+1)).map ai=(upR j).map ai++[ai (j:Int)]):=ay λj=>by rw[KD,mA];rfl
 have a6:Hh ((upR 0).map ai=[]):=ay rfl;rw[xS];go_enter Tryz.func52,Tryz.ntmps52;go_wp2_with (at_make;refine wpList_make_own _ rfl _ _ 24 rfl w.1.size 3 i0 (ai 0) 1 Tryz.underlying24 hi a3 a4 _ _ _ k rfl rfl rfl ?b2 ?b3 (nR _) ?_)
 case b2=>rw[a5];omega
 case b3=>unfold maxLen;omega
 intro w0 K I;have O:Hh (w0.ownsRow w.1.size 3 1 (.slice (some (az w.1.size 0)) 0 k) 0 []/\Bl w w0):=ay ⟨K,(bJ _ _).grown I (nR _) (λj hj=>by cases hj)⟩;clear I K;go_wp2_with fail;go_loopw [3,8] (λu t wr=>∃(j:Nat) (vo:Value),j<=k/\t=ai j/\vo=u/\Hh (wr.ownsRow w.1.size 3 1 vo j ((upR j).map ai)/\Bl w wr)) (λ_ t _=>k-(intOf t).toNat);exact⟨0,_,nZ _,rfl,rfl,ay ⟨by rw[a6.o];exact O.o.1,O.o.2⟩⟩;clear O a6;obtain⟨j,vo,hj,rfl,rfl,V⟩:=hrel;by_cases b1:j<k
 ·have i1:(j:Int)<(k:Int):=Oo;have a7:=ay (HP.o j);have a8:=V.o.2.size;go_wp2_with (first|(at_builtin;refine wpList_append_lies _ rfl _ _ 24 rfl w.1.size 3 i0 (ai 0) 1 8 Tryz.underlying24 hi a3 a4 a5 rfl Dd vo _ _ rfl (V.o.1.alloc _) (az _ 0) 1 1 [ai (j:Int)] rfl rfl (qH _ _ _) (λu hu=>by simp at hu;subst hu;rfl) Dd Um Oo Sy _ rfl ?_;intro g3 cp3 w4 U M a9 b0)|fail);go_roundw;exact⟨j+1,_,Oo,Gg,rfl,ay ⟨by rw[a7.o];exact U,(V.o.2.alloc a8 _).grown M Sy (λq hq=>(V.o.1.lt q hq).1)⟩⟩;exact Im
 obtain rfl:j=k:=Oo;have i1:¬((j:Int)<(j:Int)):=Oo;go_wp2_with fail;go_ret;exact⟨_,rfl,V.o.1,V.o.2⟩
theorem Z3(w:World)(vp:Value)(ps:LI)(top:Nat)(hp:IS w vp ps)(hl:ps.length<=1000):
 Cl 56 #[vp,ai (top:Int)] w λe w'=>∃v,e=.returned v/\w'.ownsRow w.1.size 3 1 v ps.length ((orT top ps).map ai)/\Bl w w':=by
 obtain⟨i0,hi,a3,a4,a5⟩:=info_parts Tryz.infoInt;obtain⟨a,c,rfl,hc⟩:=hp;have HC:Hh (∀W,Bl w W->∀j,j<ps.length->∃(b o:Nat),a=some (az b o)/\W.cell? (az b (o+j))=some (ai (ps.getD j 0))):=ay λW hW j hj=>by
  rcases hc with h2|⟨b,o,rfl,h2⟩;omega;exact⟨b,o,rfl,(hW.cell (bL w _ (h2 j hj))).trans (h2 j hj)⟩
 have HP:Hh (∀j,j<ps.length->(orT top (ps.take (j+1))).map ai=(orT top (ps.take j)).map ai++[ai (if ps.getD j 0<0 then (top:Int) else ps.getD j 0)]):=ay λj hj=>by
  unfold orT;rw[tA,gE hj,mA,mA,gdR hj];rfl
 have a7:Hh ((orT top (ps.take 0)).map ai=[]):=ay rfl;have a8:Hh (orT top (ps.take ps.length)=orT top ps):=ay (by rw[tL]);clear hc;obtain⟨n,hn⟩:=Ex ps.length;rw[<-hn]at HC HP a8 hl ⊢;clear hn;go_enter Tryz.func56,Tryz.ntmps56;go_wp2_with (at_make;refine wpList_make_own _ rfl _ _ 24 rfl w.1.size 3 i0 (ai 0) 1 Tryz.underlying24 hi a3 a4 _ _ _ (n+1) rfl rfl Gg ?b2 ?b3 Oo ?_)
 case b2=>rw[a5];omega
 case b3=>unfold maxLen;omega
 intro w0 O M;have a6:Hh (w0.ownsRow w.1.size 3 1 (.slice (some (az w.1.size 0)) 0 (n+1)) 0 []/\Bl w w0):=ay ⟨O,(bJ _ _).grown M (nR _) (λj hj=>by cases hj)⟩;clear M O;go_wp2_with fail;go_loopw [5,14] (λu t wr=>∃(j:Nat) (vo:Value),j<=n/\t=ai j/\vo=u/\Hh (wr.ownsRow w.1.size 3 1 vo j ((orT top (ps.take j)).map ai)/\Bl w wr)) (λ_ t _=>n-(intOf t).toNat);exact⟨0,_,nZ _,rfl,rfl,ay ⟨by rw[a7.o];exact a6.o.1,a6.o.2⟩⟩;clear a6 a7;obtain⟨j,vo,hj,rfl,rfl,U⟩:=hrel;by_cases a9:j<n
 ·have i1:(j:Int)<(n:Int):=Oo;obtain⟨b,o,ea,e1⟩:=HC.o wr U.o.2 j a9;subst ea;have V:=ay (HP.o j a9);have b0:=U.o.2.size;generalize ps.getD j 0=y at *;by_cases hy:y<0
  ·rw[if_pos hy]at V;go_wp2_with (first|(at_builtin;refine wpList_append_lies _ rfl _ _ 24 rfl w.1.size 3 i0 (ai 0) 1 8 Tryz.underlying24 hi a3 a4 a5 rfl Dd vo _ _ rfl (U.o.1.alloc _) (az _ 0) 1 1 [ai (top:Int)] rfl rfl (qH _ _ _) (λu hu=>by simp at hu;subst hu;rfl) Dd Um Oo Sy _ rfl ?_;intro g3 cp3 w4 K I b1 b7)|fail);go_roundw;exact⟨j+1,_,Oo,Gg,rfl,ay ⟨by rw[V.o];exact K,(U.o.2.alloc b0 _).grown I Sy (λq hq=>(U.o.1.lt q hq).1)⟩⟩;exact Im
  rw[if_neg hy]at V;go_wp2_with (first|(at_builtin;refine wpList_append_lies _ rfl _ _ 24 rfl w.1.size 3 i0 (ai 0) 1 8 Tryz.underlying24 hi a3 a4 a5 rfl Dd vo _ _ rfl (U.o.1.alloc _) (az _ 0) 1 1 [ai y] rfl rfl (qH _ _ _) (λu hu=>by simp at hu;subst hu;rfl) Dd Um Oo Sy _ rfl ?_;intro g3 cp3 w4 K I b1 b7)|fail);go_roundw;exact⟨j+1,_,Oo,Gg,rfl,ay ⟨by rw[V.o];exact K,(U.o.2.alloc b0 _).grown I Sy (λq hq=>(U.o.1.lt q hq).1)⟩⟩;exact Im
 obtain rfl:j=n:=Oo;have i1:¬((j:Int)<(j:Int)):=Oo;go_wp2_with fail;go_ret;have h2:=U.o.1;rw[a8.o]at h2;exact⟨_,rfl,h2,U.o.2⟩
section
variable {v:Int} {bs:LL} {ps:LI}
theorem Vt:∀{n i:Nat},i<n->xa v bs ps i=true->1<=zA v bs ps n
 |n+1,i,hi,h=>by
  show 1<=zA v bs ps n+if xa v bs ps n then 1 else 0
  by_cases e:i=n;subst e;rw[if_pos h];omega;exact bM (Vt Oo h) (Nat.le_add_right _ _)
theorem Vu:∀{n i j:Nat},i<j->j<n->xa v bs ps i=true->xa v bs ps j=true->2<=zA v bs ps n
 |n+1,i,j,hij,hj,h1,h2=>by
  show 2<=zA v bs ps n+if xa v bs ps n then 1 else 0
  by_cases e:j=n;subst e;have:=Vt hij h1;rw[if_pos h2];omega;exact bM (Vu hij Oo h1 h2) (Nat.le_add_right _ _)
theorem Kf(I:zw ps bs.length=true)(hi:i<bs.length):ps.getD i 0=-1∨((i:Int)<ps.getD i 0/\ps.getD i 0<(bs.length:Int)):=by
 unfold zw at I;rw[bV,dE]at I;have h:=aT.1 I.2 i (List.mem_range.2 (by have:=I.1;omega));unfold yc at h;rw[Bool.or_eq_true,bV,dE,dE,dE]at h;exact h
theorem qEs(K:zw ps bs.length=true):∀n l,bs.length-l<=n->l<bs.length->v∈bs.getD l []->∃t,l<=t/\t<bs.length/\xa v bs ps t=true
 |0,l,h1,I,_=>Oo
 |n+1,l,h1,I,hv=>by
  by_cases e:xa v bs ps l=true;exact⟨l,nR _,I,e⟩;have M:0<=ps.getD l 0/\v∈bs.getD (ps.getD l 0).toNat []:=by
   refine Classical.byContradiction λO=>e ?_;unfold xa;rw[decide_eq_true hv,Bool.true_and,Bool.not_eq_true',Bool.and_eq_false_iff,decide_eq_false_iff_not,decide_eq_false_iff_not];exact Classical.not_and_iff_not_or_not.1 O
  rcases Kf K I with U|U;omega;obtain⟨t,h4,V⟩:=qEs K n (ps.getD l 0).toNat Oo Oo M.2;exact⟨t,Oo,V⟩
def y6(ps:LI)(m i:Nat):Nat:=if ps.getD i 0<0 then m else (ps.getD i 0).toNat
theorem kM(I:zw ps bs.length=true):∀i,i<bs.length->i<y6 ps bs.length i/\y6 ps bs.length i<=bs.length:=λi hi=>by
 unfold y6;rcases Kf I hi with h|h;rw[if_pos Oo];omega;rw[if_neg Oo];omega
theorem qGs(hb:yH k bs=true)(hp:zw ps bs.length=true)(U:uG k bs ps=true):∀j,j<bs.length->∀l,j<l->l<=bs.length->∀v,v∈bs.getD j []->v∈bs.getD l []->v∈bs.getD (y6 ps bs.length j) []:=λj hj l a3 hl v V K=>by
 have M:l<bs.length:=by
  rcases Nat.lt_or_ge l bs.length with h|h;exact h;rw[gD,gN h]at K;cases K
 refine Classical.byContradiction λhc=>?_;have e:xa v bs ps j=true:=by
  unfold xa;rw[decide_eq_true V,Bool.true_and,Bool.not_eq_true',Bool.and_eq_false_iff,decide_eq_false_iff_not,decide_eq_false_iff_not];refine Classical.not_and_iff_not_or_not.1 λh3=>hc ?_;unfold y6;rw[if_neg Oo];exact h3.2
 obtain⟨t,h3,h4,h5⟩:=qEs hp bs.length l Oo M K;have h6:=Vu (show j<t by omega) h4 e h5;unfold yH at hb;rw[bV,aT]at hb;have I:=hb.2 _ (yC (d:=[]) hj);unfold za at I;rw[bV,bV]at I;obtain⟨h8,h9⟩:=jA I.1.2 I.2 V;unfold uG at U;have O:=of_decide_eq_true (aT.1 U v.toNat (List.mem_range.2 Oo));rw[show((v.toNat:Nat):Int)=v by omega]at O;omega
end
def AnJ(tl:List TbV)(f:Int->Int):Prop:=∀t∈tl,t.vs.map f∈t.rows
theorem jC(h:0<=qw tl o):okJ tl o=true/\qu tl o=lvJ tl o o.length:=by
 unfold qw at h;unfold qu;by_cases e:(okJ tl o&&smJ tl o o.length)=true;rw[if_pos e];rw[bV]at e;exact⟨e.1,rfl⟩;rw[if_neg e]at h;omega
theorem Vv(h:okJ tl o=true):tl.length<=8/\(∀t∈tl,qU t=true)/\uF tl o=true:=by
 unfold okJ at h;rw[bV,bV,dE,aT]at h;exact⟨h.1.1,h.1.2,h.2⟩
theorem Za(h:okJ tl o=true)(ho:o.Pairwise (·< ·)):qEV tl o:=by
 obtain⟨-,K,M⟩:=Vv h;refine⟨ho,ko M,λt I=>?_,λt I=>(qZ (K t I)).2.2⟩;have O:=(qZ (K t I)).1;refine⟨xJ O,λx U=>(xZ.1 M).subset ?_⟩;obtain⟨V,h5⟩:=ZM O U;refine yX.2 ⟨x.toNat,Oo,?_,Oo⟩;unfold qj;exact List.any_eq_true.2 ⟨t,I,decide_eq_true (by rw[show((x.toNat:Nat):Int)=x by omega];exact U)⟩
theorem row_one(h:0<=qw tl o)(hs:qV o=true):OneT ⟨o,qu tl o,zF (qu tl o).length⟩ o:=by
 refine⟨rfl,hs,xx.1,?_,?_,rfl⟩;show SL (qu tl o);rw[(jC h).2];exact qFl;show ∀r∈qu tl o,_;rw[(jC h).2];exact uz
section
variable {k:Int} {tl:List TbV} {bs:LL} {ps hs:LI} {ws:List (Int×Int)} {x:Int×Int}
theorem qBL(h:0<=bgV tl b)(hs:qV b=true)(f:Int->Int):b.map f∈bgR tl b↔∀t∈tl,hasB b t=true->∃r∈t.rows,qI t.vs (shr t.vs b) r=(shr t.vs b).map f:=by
 obtain⟨M,O⟩:=jC h;show b.map f∈qu (zO tl b) b↔_;rw[O,ZY (Za M (xJ hs))];have e:∀t,(prT b t).vs.map f∈(prT b t).rows↔∃r∈t.rows,qI t.vs (shr t.vs b) r=(shr t.vs b).map f:=λt=>by
  show _∈srt _↔_;rw[(zu _ _ (nR _)).2,List.mem_map];exact Iff.rfl
 constructor;exact λI t K hb=>(e t).1 (I _ (List.mem_map_of_mem (List.mem_filter.2 ⟨K,hb⟩)));intro I t K;obtain⟨s,hs,rfl⟩:=List.mem_map.1 K;obtain⟨U,V⟩:=List.mem_filter.1 hs;exact(e s).2 (I s U V)
def woJ(tl:List TbV):List TbV:=tl.filter λt=>decide (t.vs.length=0)
def yd(tl:List TbV):LL:=qu (woJ tl) []
def Kg(tl:List TbV):TbV:=⟨[],yd tl,zF (yd tl).length⟩
theorem qDD(h:∀t∈tl,qU t=true)(hl:tl.length<=8):0<=qw (woJ tl) []:=by
 have e:okJ (woJ tl) []=true:=by
  unfold okJ;rw[bV,bV,dE,aT];refine⟨⟨bM (List.length_filter_le _ _) hl,λt I=>h t (List.mem_filter.1 I).1⟩,xZ.2 ?_⟩;have O:vrJ (woJ tl)=[]:=by
   refine List.eq_nil_iff_forall_not_mem.2 λx U=>?_;obtain⟨i,-,K,-⟩:=yX.1 U;unfold qj at K;obtain⟨t,I,M⟩:=List.any_eq_true.1 K;have V:=List.length_eq_zero_iff.1 (of_decide_eq_true (List.mem_filter.1 I).2);rw[dE,V]at M;cases M
  rw[O]
 rw[(xw e).2];have e3:smJ (woJ tl) [] ([]:LI).length=true:=rfl;rw[if_pos e3];omega
theorem Kh(h:∀t∈tl,qU t=true)(hl:tl.length<=8)(f:Int->Int):[]∈yd tl↔∀t∈tl,t.vs.length=0->t.vs.map f∈t.rows:=by
 obtain⟨M,O⟩:=jC (qDD h hl);unfold yd;rw[O];refine(ZY (Za M List.Pairwise.nil) f).trans ⟨λI t K U=>I t (List.mem_filter.2 ⟨K,decide_eq_true U⟩),λI t K=>?_⟩;obtain⟨V,h5⟩:=List.mem_filter.1 K;exact I t V (of_decide_eq_true h5)
def QC(tl:List TbV)(bs:LL)(i:Nat):LL:=if i<bs.length then bgR tl (bs.getD i []) else yd tl
def vV(tl:List TbV)(bs:LL):List TbV:=bs.map (bgT tl)++[Kg tl]
theorem qBM(hi:i<bs.length):(vV tl bs).getD i qA=bgT tl (bs.getD i []):=by
 unfold vV;rw[gD,aL (by rw[lM];exact hi),bK,gE hi,gdR hi];rfl
theorem Ki:(vV tl bs).getD bs.length qA=Kg tl:=by
 unfold vV;rw[gD,bQ (by rw[lM];exact nR _),lM,Nat.sub_self];rfl
theorem QD{α:Type}{l:List α}{d:α}(h:l.length<=i):l.getD i d=d:=by
 rw[gD,gN h];rfl
theorem uV(h:qe k tl bs ps hs ws x=true):yH k bs=true/\zw ps bs.length=true/\uG k bs ps=true/\yQ hs (tl.map TbV.vs) bs=true:=by
 unfold qe zM at h;rw[bV,bV,bV,bV,bV,bV]at h;obtain⟨-,⟨⟨⟨⟨-,I⟩,K⟩,M⟩,O⟩,-⟩:=h;exact⟨I,K,M,O⟩
theorem Zb(h:qe k tl bs ps hs ws x=true)(i:Nat):(bs.getD i []).Pairwise (·< ·):=by
 rcases Nat.lt_or_ge i bs.length with hi|hi;exact xJ ((qp h).2.2.2.2 i hi).2;rw[QD hi];exact List.Pairwise.nil
theorem YR(h:qe k tl bs ps hs ws x=true)(hv:∀i,i<bs.length->0<=bgV tl (bs.getD i []))(f:Int->Int):(∀l,l<=bs.length->(bs.getD l []).map f∈QC tl bs l)↔AnJ tl f:=by
 obtain⟨h0,h1,h2,h3,h4⟩:=qp h;have U:∀t∈tl,qU t=true:=λt I=>aT.1 h0 t I;constructor
 ·intro hl t I;by_cases e:t.vs.length=0;have K:=hl bs.length (nR _);unfold QC at K;rw[if_neg Oo,QD (nR _)]at K;exact(Kh U Oo f).1 K t I e;obtain⟨i,hi,rfl⟩:=gO I;have K:=(uV h).2.2.2;unfold yQ at K;rw[bV]at K;have V:=aT.1 K.2 i (List.mem_range.2 (by rw[lM];exact hi));have e3:(tl.map TbV.vs).getD i []=tl[i].vs:=by rw[gdR (by rw[lM];exact hi),List.getElem_map]
  unfold zc at V;rw[e3,if_neg e,bV,bV,dE,dE,aT]at V;obtain⟨⟨h7,h8⟩,h9⟩:=V;generalize (hs.getD i 0)=g at *;have M:=hl g.toNat Oo;unfold QC at M;rw[if_pos Oo,qBL (hv _ Oo) (h4 _ Oo).2]at M;have e4:shr tl[i].vs (bs.getD g.toNat [])=tl[i].vs:=List.filter_eq_self.2 λy hy=>h9 y hy;obtain⟨r,hr,e5⟩:=M tl[i] I (by unfold hasB;rw[e4];exact decide_eq_true Oo);rw[e4]at e5;have O:=qZ (U _ I);rw[show qI tl[i].vs tl[i].vs r=r from jB (xJ O.1) (O.2.2 r hr)]at e5;rw[<-e5];exact hr
 intro hA l hl;unfold QC;by_cases e:l<bs.length;rw[if_pos e,qBL (hv _ e) (h4 _ e).2];exact λt I _=>⟨_,hA t I,VE (xJ (qZ (U t I)).1) (λy hy=>uI hy) f⟩;rw[if_neg e,QD Oo];exact(Kh U Oo f).2 λt I _=>hA t I
theorem Vw(h:qe k tl bs ps hs ws x=true)(hv:∀i,i<bs.length->0<=bgV tl (bs.getD i [])):RdS bs.length (λi=>bs.getD i []) (QC tl bs) (AnJ tl) (vV tl bs):=by
 obtain⟨M,h1,h2,h3,O⟩:=qp h;have U:∀t∈tl,qU t=true:=λt V=>aT.1 M t V;have K:∀i,i<=bs.length->((vV tl bs).getD i qA).rows=QC tl bs i:=λi hi=>by
  unfold QC;by_cases e:i<bs.length;rw[if_pos e,qBM e];rfl;rw[if_neg e,show i=bs.length by omega,Ki];rfl
 refine⟨by unfold vV;rw[lA,lM];rfl,λi hi=>?_,λi hi r I=>by rw[<-K i hi];exact I,λf hf i hi=>by rw[K i hi];exact(YR h hv f).2 hf i hi⟩;by_cases e:i<bs.length;rw[qBM e];exact row_one (hv i e) (O i e).2;rw[show i=bs.length by omega,Ki];show OneT _ (bs.getD bs.length []);rw[QD (nR _)];exact row_one (qDD U Oo) rfl
theorem kN(k:Nat):(upR k).Pairwise (·< ·):=List.pairwise_map.2 (List.pairwise_lt_range.imp λh=>Int.ofNat_lt.2 h)
theorem qBN{k:Nat}{y:Int}:y∈upR k↔0<=y/\y<k:=by
 unfold upR;rw[List.mem_map];constructor;rintro⟨i,hi,rfl⟩;have:=List.mem_range.1 hi;show(0:Int)<=(i:Int)/\(i:Int)<k;omega;exact λh=>⟨y.toNat,List.mem_range.2 Oo,by show((y.toNat:Nat):Int)=y;omega⟩
theorem Kj{k:Nat}(h:i<k):(upR k).getD i 0=(i:Int):=by
 rw[gdR (by rw[xS];exact h)];unfold upR;rw[List.getElem_map,List.getElem_range];rfl
theorem qEt(h:qe k tl bs ps hs ws x=true):okJ tl (upR k.toNat)=true:=by
 obtain⟨V,I,h2,h3,h4⟩:=qp h;obtain⟨k0,k6,-⟩:=yR I;unfold zg at I;rw[bV,bV,aT,aT]at I;obtain⟨⟨-,h5⟩,h6⟩:=I;unfold okJ;rw[bV,bV,dE];refine⟨⟨Oo,V⟩,xZ.2 ?_⟩;unfold vrJ;rw[YH (X9 (qj tl) 6) (kN k.toNat) λy=>?_];rw[qBN,yX];constructor;rintro⟨i,hi,M,rfl⟩;unfold qj at M;obtain⟨t,K,h8⟩:=List.any_eq_true.1 M;have O:=jA (qZ (aT.1 V t K)).1 (h5 _ (List.mem_map_of_mem K)) (of_decide_eq_true h8);omega;rintro⟨M,h8⟩;refine⟨y.toNat,Oo,?_,Oo⟩;have O:=h6 y.toNat (List.mem_range.2 Oo);unfold zZ at O;obtain⟨e,he,U⟩:=List.any_eq_true.1 O;obtain⟨t,K,rfl⟩:=List.mem_map.1 he;unfold qj;exact List.any_eq_true.2 ⟨t,K,U⟩
def qm(b p:LI):LI:=b.map λv=>p.getD v.toNat 0
def rdR(k:Int)(tl:List TbV)(b:LI):LL:=srt ((qu tl (upR k.toNat)).map (qm b))
def rdT(k:Int)(tl:List TbV)(b:LI):TbV:=⟨b,rdR k tl b,zF (rdR k tl b).length⟩
theorem qFn(h:qe k tl bs ps hs ws x=true)(M:0<=qw tl (upR k.toNat))(hi:i<bs.length)(r:LI):r∈rdR k tl (bs.getD i [])↔∃f,AnJ tl f/\(bs.getD i []).map f=r:=by
 have O:=Za (jC M).1 (kN k.toNat);have hb:∀y∈bs.getD i [],0<=y/\y<k:=λy I=>by
  have K:=((qp h).2.2.2.2 i hi).1;unfold za at K;rw[bV,bV]at K;exact jA K.1.2 K.2 I
 unfold rdR;rw[(zu _ _ (nR _)).2,List.mem_map,(jC M).2];constructor;rintro⟨p,U,rfl⟩;have e:=jB (kN k.toNat) (uz p U);refine⟨vlF (upR k.toNat) p,(ZY O _).1 (by rw[e];exact U),List.map_congr_left λy I=>?_⟩;have h1:=hb y I;have V:=jS (upR k.toNat) p y.toNat (kN _) (by rw[xS];omega);rw[Kj Oo,show((y.toNat:Nat):Int)=y by omega]at V;exact V;rintro⟨f,hf,rfl⟩;refine⟨(upR k.toNat).map f,(ZY O f).2 hf,List.map_congr_left λy I=>?_⟩;have h1:=hb y I;rw[gdR (by rw[lM,xS];omega),List.getElem_map,<-gdR (d:=0) (by rw[xS];omega),Kj Oo,show((y.toNat:Nat):Int)=y by omega]
def ui(tl:List TbV)(bs:LL)(ps:LI):List TbV:=dnT (y6 ps bs.length) bs.length (upT (y6 ps bs.length) (vV tl bs) bs.length) bs.length
theorem qGt(h:qe k tl bs ps hs ws x=true)(hv:∀i,i<bs.length->0<=bgV tl (bs.getD i []))(U:0<=qw tl (upR k.toNat))(hi:i<bs.length):(ui tl bs ps).getD i qA=rdT k tl (bs.getD i []):=by
 obtain⟨V,K,h4,h5⟩:=uV h;obtain⟨I,h7⟩:=qFm (Zb h) (kM K) (qGs V K h4) (λf=>(YR h hv f).1) (Vw h hv) (i:=i) Oo;have h8:((ui tl bs ps).getD i qA).rows=rdR k tl (bs.getD i []):=SL.uniq I.sl (zu _ _ (nR _)).1 λr=>(h7 r).trans (qFn h U hi r).symm;have h9:(ui tl bs ps).getD i qA=⟨bs.getD i [],((ui tl bs ps).getD i qA).rows,zF ((ui tl bs ps).getD i qA).rows.length⟩:=by
  have M:=I.vs;have O:=I.ws;show _=TbV.mk _ _ _;unfold ui;generalize (dnT (y6 ps bs.length) bs.length (upT (y6 ps bs.length) (vV tl bs) bs.length) bs.length).getD i qA=t at *;obtain⟨a,b,c⟩:=t;simp only at M O;rw[M,O]
 rw[h9,h8];rfl
theorem VH:(ui tl bs ps).length=bs.length+1:=by
 unfold ui vV;rw[VG,ZZ,lA,lM];rfl
theorem qFo(h:qe k tl bs ps hs ws x=true)(hv:∀i,i<bs.length->0<=bgV tl (bs.getD i []))(K:0<=qw tl (upR k.toNat)):(ui tl bs ps).take bs.length=bs.map (rdT k tl):=by
 refine List.ext_getElem (by rw[bW,VH,lM];omega) λi M I=>?_;rw[lM]at I;rw[List.getElem_take,List.getElem_map,<-gdR (d:=qA) (by rw[VH];omega),qGt h hv K I,gdR I]
end
theorem QE(b p:LI):(qm b p).length=b.length:=lM _
theorem Kk(w:World)(vv vw vb:Value)(p b:LI)(hv:IS w vv p)(hw:∃a n c,vw=.slice a n c)(hb:IS w vb b)(hl:b.length<=1000)(a3:∀y∈b,0<=y/\y<p.length):
 Cl 21 #[.agg #[vv,vw],vb] w λe w'=>∃v,e=.returned v/\w'.ownsRow w.1.size 3 1 v b.length ((qm b p).map ai)/\Bl w w':=by
 obtain⟨i0,hi,b8,b9,c7⟩:=info_parts Tryz.infoInt;obtain⟨aw,nw,cw,rfl⟩:=hw;obtain⟨ar,K,rfl,a4⟩:=hv;obtain⟨ap,c9,rfl,a5⟩:=hb;obtain⟨M,I⟩:=Ex ((w.alloc (.cells #[.slice ar p.length K,.slice aw nw cw] 57)).alloc (.cells #[] 3));have a6:Hh (Bl w M):=ay (by rw[I];exact(aK).alloc Ss _);have a7:Hh (∀W,Below (w.1.size+1) M W->W.cell? (az w.1.size 0)=some (.slice ar p.length K)):=ay λW hW=>by
  have h1:M.cell? (az w.1.size 0)=some (.slice ar p.length K):=by
   rw[I];exact((aK).cell (p:=(az w.1.size 0)) Ss).trans (by rw[bE _ _ _ _ rfl];rfl)
  exact(hW.cell (p:=(az w.1.size 0)) (by show w.1.size<w.1.size+1;omega)).trans h1
 have a8:Hh (M.ownsRow (w.1.size+1) 3 1 (.slice (some (az (w.1.size+1) 0)) 0 0) 0 []):=ay (by
  have h1:=oM (base:=w.1.size+1) (w.alloc (.cells #[.slice ar p.length K,.slice aw nw cw] 57)) (#[]:Array Value) 0 (e:=3) (size:=1) Ss Dd rfl;rw[I];rw[World.size_alloc]at h1;exact h1)
 have old:∀{W:World},Below (w.1.size+1) M W->∀{a:Addr} {u:Value},w.cell? a=some u->W.cell? a=some u:=λ{W} hW {a u} h=>by
  have h1:=bL w _ h;exact(hW.cell Oo).trans (qJ a6.o h)
 have HC:Hh (∀W,Below (w.1.size+1) M W->∀j,j<b.length->∃(bb o q br oo:Nat),ap=some (az bb o)/\ar=some (az br oo)/\q<p.length/\W.cell? (az bb (o+j))=some (ai (q:Int))/\W.cell? (az br (oo+q))=some (ai (p.getD q 0))/\b.getD j 0=(q:Int)):=ay λW hW j hj=>by
  obtain⟨h0,h1⟩:=a3 _ (yC (d:=0) hj);have e:b.getD j 0=((b.getD j 0).toNat:Int):=Oo;rcases a5 with h2|⟨bb,o,rfl,h2⟩;omega;rcases a4 with h3|⟨br,oo,rfl,h3⟩;omega;refine⟨bb,o,(b.getD j 0).toNat,br,oo,rfl,rfl,Oo,?_,?_,e⟩;rw[<-e];exact old hW (h2 j hj);exact old hW (h3 _ Oo)
 have HP:Hh (∀j q,j<b.length->b.getD j 0=((q:Nat):Int)->(qm (b.take (j+1)) p).map ai=(qm (b.take j) p).map ai++[ai (p.getD q 0)]):=ay λj q hj e=>by
  unfold qm;rw[tA,gE hj,mA,mA];rw[gdR hj]at e;simp[e]
 have a9:Hh ((qm (b.take 0) p).map ai=[]):=ay rfl;have b0:Hh (qm (b.take b.length) p=qm b p):=ay (by rw[tL]);clear a4 a5 a3 old;have d2:w.1.size+1<=M.1.size:=by rw[I];simp
 obtain⟨n,hn⟩:=Ex b.length;obtain⟨nr,b1⟩:=Ex p.length;rw[<-hn]at HC HP b0 hl ⊢;rw[<-b1]at HC a7 I ⊢;clear hn b1;go_enter Tryz.func21,Tryz.ntmps21;go_upto_region 2 with fail;rw[<-I];clear I;go_wp2_with fail;go_loopw [5,11] (λu t wr=>∃(j:Nat) (vo:Value),j<=n/\t=ai j/\vo=u/\Hh (wr.ownsRow (w.1.size+1) 3 1 vo j ((qm (b.take j) p).map ai)/\Below (w.1.size+1) M wr)) (λ_ t _=>n-(intOf t).toNat);exact⟨0,_,nZ _,rfl,rfl,ay ⟨by rw[a9.o];exact a8.o,bJ _ _⟩⟩;clear a8 a9;obtain⟨j,vo,hj,rfl,rfl,U⟩:=hrel;by_cases b7:j<n
 ·have i1:(j:Int)<(n:Int):=Oo;obtain⟨bb,o,q,br,oo,ea,eb,hq,e1,e2,e3⟩:=HC.o wr U.o.2 j b7;subst ea eb;have i2:(q:Int)<(nr:Int):=Oo;have x0:=a7.o wr U.o.2;have c8:=ay (HP.o j q b7 e3);have d3:=U.o.2.size;clear e3;generalize p.getD q 0=y at *;go_wp2_with (first|(at_builtin;refine wpList_append_lies _ rfl _ _ 24 rfl (w.1.size+1) 3 i0 (ai 0) 1 8 Tryz.underlying24 hi b8 b9 c7 rfl Dd vo _ _ rfl (U.o.1.alloc _) (az _ 0) 1 1 [ai y] rfl rfl (qH _ _ _) (λu hu=>by simp at hu;subst hu;rfl) Dd Um Oo Sy _ rfl ?_;intro g3 cp3 w4 V O d0 d1)|fail);go_roundw;exact⟨j+1,_,Oo,Gg,rfl,ay ⟨by rw[c8.o];exact V,(U.o.2.alloc Oo _).grown O Sy (λq hq=>(U.o.1.lt q hq).1)⟩⟩;exact Im
 obtain rfl:j=n:=Oo;have i1:¬((j:Int)<(j:Int)):=Oo;go_wp2_with fail;go_ret;have h2:=U.o.1;rw[b0.o]at h2;exact⟨_,rfl,qF h2 Oo,a6.o.trans (U.o.2.mono Oo)⟩
end Go.Proofs.YtcnfapnfmnolbaaGreat
