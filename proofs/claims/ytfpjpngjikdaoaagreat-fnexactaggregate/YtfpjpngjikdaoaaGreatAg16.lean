import Derived.Test.YtfpjpngjikdaoaaGreatAg15
import Derived.Test.YtfpjpngjikdaoaaGreatAg08
import Derived.Test.YtfpjpngjikdaoaaGreatAg10
import Derived.Deep.AppendLies
import Derived.Laws.OwnMore
set_option maxHeartbeats 40000000
set_option maxRecDepth 1000000
set_option linter.defProp false
open List Go.World
open List renaming length->E,getD->U
open Array renaming size->J
open Go.World renaming alloc->S,cell?->eQ,ownsRow->oW,setCell->sW
open Go.Value renaming slice->Z,agg->aQ
open Go.Obj renaming cells->eZ
open Go.Ending renaming returned->rE
open Option renaming some->Q,none->wH
open Go renaming World->oX,Value->oV,wpList_mapUpdate_in->tI
open Decidable renaming decide->oD
open Bool renaming false->nF
open Go.Proofs.Tryz renaming prog->wD
open Prod renaming snd->wL,fst->wM
namespace Go.Proofs.YtfpjpngjikdaoaaGreat
open Go.Proofs.Tryz Go.RowKit Go.Maps
def f2(x y:oV)(i:Nat):oV:=match i with|0=>x|_=>y
def V7{vs:LI}(h:qb vs):(∀y∈vs,0<=y/\y<6)/\E vs<=1000:=⟨λy hy=>O1 (XM h hy),O1 (kI h)⟩
def Wf(rows:LL):Prop:=∀r∈rows,∀x∈r,-9223372036854775808<=x/\x<=9223372036854775807
def xx(vs r:LI):LI:=(range 6).map (xS vs λi=>vlF vs r i)
def V8:∀(vs r:LI) (v:Int),vlF vs r v=0∨vlF vs r v∈r
 |[],_,_=>.inl rfl
 |x::vs,[],v=>by
  unfold vlF;split;exact .inl rfl;exact(V8 vs [] v).imp id λh=>by cases h
 |x::vs,y::r,v=>by
  unfold vlF;split;exact .inr (cY ..);exact(V8 vs r v).imp id λh=>mC _ h
def V9{vs r:LI}(h:∀x∈r,-9223372036854775808<=x/\x<=9223372036854775807):Ok6 (xx vs r):=by
 refine⟨by unfold xx;simp,λz hz=>?_⟩;obtain⟨i,-,rfl⟩:=cC.1 hz;unfold xS xR;split
 ·rcases V8 vs r i with e|e;simp only[e];decide;exact h _ e
 show(-9223372036854775808:Int)<=0/\(0:Int)<=9223372036854775807;decide
def qHe(vs r:LI):asL (xx vs r)=asV (xS vs λi=>vlF vs r i):=rfl
def RwM(vs:LI)(rows:LL)(ws:LI)(j:Nat)(M:LI->Option Int):Prop:=
 (∀q z,M q=Q z->∃i,i<j/\q=xx vs (U rows i [])/\z=U ws i 0)/\∀i,i<j->∃z,M (xx vs (U rows i []))=Q z
def Wr(X:oX)(b:Nat)(ks:LL)(D:DataW Unit)(vs:LI)(rows:LL)(ws:LI)(j:Nat):Prop:=∃M,mQ X b ks D M/\RwM vs rows ws j M
section
variable {X Y:oX} {b:Nat} {ks:LL} {D:DataW Unit} {vs:LI} {rows:LL} {ws:LI} {j:Nat}
def Wr.zv(w:oX):Wr (S w (.map #[] 0)) (J w.1) [] (.map []) vs rows ws 0:=⟨_,mQ.zv w,λq z h=>(by cases h),λi h=>absurd h (Nat.not_lt_zero i)⟩
def Wr.A(h:Wr X b ks D vs rows ws j)(hb:Y.1[b]?=X.1[b]?):Wr Y b ks D vs rows ws j:=by
 have⟨M,h1,h2⟩:=h;exact⟨M,h1.A hb,h2⟩
def Wr.O(h:Wr X b ks D vs rows ws j)(hb:Bl X Y):Wr Y b ks D vs rows ws j:=by
 have⟨M,h1,h2⟩:=h;exact⟨M,h1.O hb,h2⟩
def Wr.z(h:Wr X b ks D vs rows ws j):X.ownsMap wD 140 Z2 b (E ks) D:=by
 obtain⟨M,h1,-⟩:=h;exact h1.map.z
def Wr.lt(h:Wr X b ks D vs rows ws j):b<J X.1:=h.z.lt
def Wr.put{ka:LI}{n:Nat}{x:Int}(h:Wr X b ks D vs rows ws j)(hk:Ok6 ka)(e1:xx vs (U rows j [])=ka)(e2:U ws j 0=x)(ho:Y.ownsMap wD 140 Z2 b n (D.put (kla ka) (.lit (.int .i64 x)))):Wr Y b (xa ka ks) (D.put (kla ka) (.lit (.int .i64 x))) vs rows ws (j+1):=by
 have⟨M,h1,h2,h3⟩:=h;refine⟨_,h1.put hk ho,λq z hq=>?_,λi hi=>?_⟩
 ·unfold X3 at hq;split at hq
  ·cases hq
   exact⟨j,Nat.lt_succ_self _,by rw[e1];assumption,e2.symm⟩
  have⟨i,h4,h5⟩:=h2 q z hq;exact⟨i,Nat.lt_succ_of_lt h4,h5⟩
 unfold X3;split;exact⟨_,rfl⟩;rename_i e;refine h3 i (Nat.lt_of_le_of_ne (Nat.le_of_lt_succ hi) λe3=>e ?_);rw[e3];exact e1
end
def UA(w:oX)(v0 v1 v2:oV)(vs:LI)(rows:LL)(ws:LI)(h:IT w v0 v1 v2 vs rows ws)(a9:ql vs rows ws)(d4:Wf rows):
 Cl 141 #[aQ #[v0,v1,v2]] w λe w'=>∃b,e=rE (aQ #[v0,.map (Q b)])/\J w.1<=b/\(∃ks D,Wr w' b ks D vs rows ws (E rows))/\Bl w w':=by
 have g4:=@run_makeMap wD;have⟨b7,e4,d5⟩:=qL a9;have d6:E ws=E rows:=by
  unfold ql at a9;rw[bV,dE]at a9;exact a9.2
 have⟨h6,e5⟩:=V7 b7;have HP:=ay (xK b7);change Hh _ at d5 d4 h6;obtain⟨a0,k0,rfl,-⟩:=h.e;obtain⟨a1,k1,rfl,b8⟩:=h.x;obtain⟨a2,k2,rfl,a7⟩:=h.k;rw[d6]at a7 ⊢;have d7:=ay b8;have d8:=ay a7;have HQ:=ay h6;have⟨n,hn⟩:=Ex (E rows);have⟨m,hm⟩:=Ex (E vs);rw[<-hn]at d7 d8 e4 ⊢;rw[<-hm]at e5 d5 ⊢;have⟨W4,b9⟩:=Ex (S (S (S (aJ w #[Z a0 m k0,Z a1 n k1,Z a2 n k2] 58) (eZ #[sn,.map wH] 200)) (.map #[] 0)) (eZ #[Z a0 m k0,.map (Q (J w.1+1+1))] 200));have d9:Bl w W4:=by rw[b9];exact(((aK).alloc Ss _).alloc Sy _).alloc Sy _
 have a5:Hh (Bl w W4/\Wr W4 (J w.1+1+1) [] (.map []) vs rows ws 0/\ArrAt W4 (J w.1) 3 (f3 (Z a0 m k0) (Z a1 n k1) (Z a2 n k2))/\ArrAt W4 (J w.1+1) 2 (f2 sn (.map wH))/\ArrAt W4 (J w.1+1+1+1) 2 (f2 (Z a0 m k0) (.map (Q (J w.1+1+1))))):=(by
  refine⟨d9,?_⟩;rw[b9];have x1:=qj w 3 (f3 (Z a0 m k0) (Z a1 n k1) (Z a2 n k2)) 58;have x2:=qj (aJ w #[Z a0 m k0,Z a1 n k1,Z a2 n k2] 58) 2 (f2 sn (.map wH)) 200;have x3:=Wr.zv (vs:=vs) (rows:=rows) (ws:=ws) (S (aJ w #[Z a0 m k0,Z a1 n k1,Z a2 n k2] 58) (eZ #[sn,.map wH] 200));have x4:=qj (S (S (aJ w #[Z a0 m k0,Z a1 n k1,Z a2 n k2] 58) (eZ #[sn,.map wH] 200)) (.map #[] 0)) 2 (f2 (Z a0 m k0) (.map (Q (J w.1+1+1)))) 200;rw[aM]at x2;rw[aM,aM]at x3;rw[aM,aM,aM]at x4;have B:∀{X:oX} {o:Obj},Bl X (S X o):=aK;exact⟨x3.O B,((ArrAt.zz x1 Oo B).zz Oo B).zz Oo B,(ArrAt.zz x2 Oo B).zz Oo B,x4⟩)
 have HN:=ay hn;have HM:=ay hm;have HV:Hh (IS w (Z a0 m k0) vs):=(hm▸h.e);clear b8 a7 h a9 b7 d9 hn hm d6;go_enter func141,ntmps141;go_upto_region 2 with fail;rw[<-b9];clear b9;obtain⟨-,-,t3,-,-⟩:=id a5.o;have⟨t0,t1,t2⟩:=t3.three;go_wp2;go_loopw [13] (λt wr=>∃(j:Nat) (ks:LL) (D:DataW Unit),j<=n/\t=ai j/\E ks<=j/\Hh (Bl w wr/\Wr wr (J w.1+1+1) ks D vs rows ws j/\ArrAt wr (J w.1) 3 (f3 (Z a0 m k0) (Z a1 n k1) (Z a2 n k2))/\ArrAt wr (J w.1+1) 2 (f2 sn (.map wH))/\ArrAt wr (J w.1+1+1+1) 2 (f2 (Z a0 m k0) (.map (Q (J w.1+1+1)))))) (mZ n);exact⟨0,[],_,eC,rfl,eA,a5⟩;clear a5 t0 t1 t2 t3;obtain⟨j,ks,D,hj,rfl,g5,HX⟩:=hrel;have⟨x0,x1,x2,x3,x4⟩:=HX.o;by_cases c7:j<n
 ·have i1:=aV c7;rcases d7.o with h0|⟨b1,o1,rfl,b8⟩;omega;rcases d8.o with h0|⟨b2,o2,rfl,a7⟩;omega;have⟨u,c1,hu⟩:=b8 j c7;have e6:j<E rows:=HN.o▸c7
  have c8:=qz (d:=[]) e6;obtain⟨ar,kr,rfl,-⟩:=id hu;have e1:aC wr b1 (o1+j) (Z ar (E (U rows j [])) kr):=qF x0 c1;have KA:Hh (∀W,Bl wr W->Cl 135 #[Z a0 m k0,Z ar (E (U rows j [])) kr] W λe w'=>e=rE (asV (xS vs λi=>vlF vs (U rows j []) i))/\Bl W w'):=λW hW=>QW W _ ((HV.o.zz x0).zz hW) ((hu.zz x0).zz hW) (by rw[d5.o _ c8,HM.o]) (O1 HM.o) HQ HP;have c9:keyOf wD 140 (asV (xS vs λi=>vlF vs (U rows j []) i))=Q (kla (xx vs (U rows j []))):=yP (V9 (d4.o _ c8));have e0:=V9 (vs:=vs) (d4 _ c8);have HS:Hh (∀W,Bl wr W->aC W (J w.1) 0 (Z a0 m k0)/\aC W (J w.1) 2 (sZ b2 o2 n k2)/\aC W (J w.1+1+1+1) 1 (.map (Q (J w.1+1+1)))/\aC W b2 (o2+j) (ai (U ws j 0))):=λW hW=>⟨(x2.zz Oo hW).three.1,(x2.zz Oo hW).three.2.2,(x4.zz Oo hW).cell 1 Oo,qF hW (qF x0 (a7 j c7))⟩;have HT:Hh (∀W W',Bl wr W->W.mapTurned W' (J w.1+1+1)->aC W' (J w.1) 0 (Z a0 m k0)/\aC W' (J w.1) 2 (sZ b2 o2 n k2)/\aC W' (J w.1+1+1+1) 1 (.map (Q (J w.1+1+1)))/\aC W' b2 (o2+j) (ai (U ws j 0))):=λW W' hW ht=>by
   have⟨s0,s1,s2,s3⟩:=HS W hW;have g6:b2<J w.1:=bL w _ (a7 j c7);have n0:J w.1≠J w.1+1+1:=Oo;have n1:J w.1+1+1+1≠J w.1+1+1:=Oo;have n2:b2≠J w.1+1+1:=Oo;exact⟨qk ht n0 s0,qk ht n0 s1,qk ht n1 s2,qk ht n2 s3⟩
  have d0:=ay x1;have d1:=ay x0;have d2:=ay x2;have d3:=ay x3;have a5:=ay x4;have b0:Bl wr wr.drew:=eB.drew;have e7:E ks<maxLen:=Um;clear x0 x1 x2 x3 x4 HX c1 hu c8;generalize E (U rows j [])=lr,hfv:(xS vs λi=>vlF vs (U rows j []) i)=fv,hka:xx vs (U rows j [])=ka,hxw:U ws j 0=xw at *;change Hh _ at hka hxw;go_upto_region 5 with fail;go_region_held_law (λW=>aC W (J w.1) 0 (Z a0 m k0)/\aC W (J w.1) 2 (sZ b2 o2 n k2)/\aC W (J w.1+1+1+1) 1 (.map (Q (J w.1+1+1)))/\aC W b2 (o2+j) (ai xw))
   (first
    |exact HS.o _ b0
    |exact HS.o _ bW
    |exact HT.o _ _ bW a3
    |fail)
   (first
    |(go_simp;go_at_call 135;apply (KA.o _ b0).mn;intro g7 e2;have bW:=bt b0 e2;have⟨a8,f7,a6,a3⟩:=(d0.o.O bW).z.store Tryz.lawA Tryz.underWo e7 c9 (val:=ai xw) rfl)
    |fail)
  all_goals
   have a4:Kb (J w.1+1+1) wr a8:=(Kb.zu bW).turned a3
   have e3:=d1.o.size
   have f9:=YG (a:=ka) (ks:=ks)
   have HE:Hh (Bl w a8/\Wr a8 (J w.1+1+1) (xa ka ks) (D.put (kla ka) (.lit (.int .i64 xw))) vs rows ws (j+1)/\ArrAt a8 (J w.1) 3 (f3 (Z a0 m k0) (sZ b1 o1 n k1) (sZ b2 o2 n k2))/\ArrAt a8 (J w.1+1) 2 (f2 sn (.map wH))/\ArrAt a8 (J w.1+1+1+1) 2 (f2 (Z a0 m k0) (.map (Q (J w.1+1+1))))):=⟨d1.o.trans (a4.zz e3 Oo),(d0.o.O bW).put e0 hka.o hxw.o a6,d2.o.A (a4.block _ (d2.o.lt Oo) Oo),d3.o.A (a4.block _ (d3.o.lt Oo) Oo),a5.o.A (a4.block _ (a5.o.lt Oo) Oo)⟩
   clear a4 e3 a6 a3 f7 bW HS HT KA c9 d0 d1 d2 d3 a5
   go_wp2
   go_roundw;exact⟨j+1,xa ka ks,_,Oo,Gg,Oo,HE⟩;exact Im
 obtain rfl:j=n:=Oo;have i1:=aY j;have c0:=x4.cell 0 Oo;have c1:=x4.cell 1 Oo;have z0:=x3.cell 0 Oo;have z1:=x3.cell 1 Oo;have g0:=x3.L 0 Oo;have g1:=x3.L 1 Oo;have H0:=ay x0;have H1:=ay x1;clear x0 x1 x2 x3 x4 HX;unfold f2 at c0 c1 z0 z1;go_wp2;refine aU (v:=aQ #[Z a0 m k0,.map (Q (J w.1+1+1))]) (by simp[results,results141,go_sem,z0,z1]) rfl ⟨_,rfl,Oo,⟨ks,D,?_⟩,(H0.o.setCell (iF _) _).setCell (iF _) _⟩;exact(H1.o.A (eG (by show J w.1+1+1≠J w.1+1;omega))).A (eG (by show J w.1+1+1≠J w.1+1;omega))
def Tryz.infoRt:(Tryz.prog.info? 200).map (λi=>(i.zero,i.size,i.bytes))=Q (Q (aQ #[sn,.map wH]),2,32):=Kl
def QM{W:oX}{base s n b:Nat}{t:TypeId}{v:oV}{xs:List oV}{R:oV->Option (DataW Unit×List MemPlace)}{ks:LL}{D:DataW Unit}(ho:oW W base t s v n xs)(hm:Wm R W b ks D):Q b≠v.ownBlock:=by
 rcases ho.2 with ⟨rfl,-⟩|⟨g,cap,cur,rfl,-,hr,-⟩;intro e;cases e
 intro e;have e:b=g:=eU e;subst e;obtain⟨es,clock,h1,-⟩:=hm.z;rw[hr]at h1;cases h1
def gR(w:oX)(x y:oV)(t:TypeId):∀j q,[x,y][j]?=Q q->(S w (eZ #[x,y] t)).cell? (((az (J w.1) 0):Addr).add j)=Q q:=news_of_block (dZ w _)
abbrev RtT:=oV×Nat×TbV
def ft:RtT:=(undef,0,qA)
def WrT(W:oX)(m:Nat)(t:TbV):Prop:=∃ks D,Wr W m ks D t.e t.x t.k (E t.x)
def WrT.A{W W':oX}{m:Nat}{t:TbV}(h:WrT W m t)(hb:W'.1[m]?=W.1[m]?):WrT W' m t:=by
 have⟨ks,D,h1⟩:=h;exact⟨ks,D,h1.A hb⟩
def WrT.lt{W:oX}{m:Nat}{t:TbV}(h:WrT W m t):m<J W.1:=by
 have⟨ks,D,h1⟩:=h;exact h1.lt
def rcl(e:RtT):List oV:=[e.1,.map (Q e.2.1)]
structure RtM(w0 w W:oX)(v:oV)(es:List RtT):Prop where
 z:oW W (J w.1) 200 2 v (E es) (es.flatMap rcl)
 m:∀e∈es,IS w0 e.1 e.2.2.e
 maps:∀e∈es,J w.1<=e.2.1/\WrT W e.2.1 e.2.2
 O:Bl w W
def RtM.push{w0 w W W1 W3:oX}{v va:oV}{b g c:Nat}{o:Obj}{es:List RtT}{t:TbV}(h:RtM w0 w W v es)(h1:Bl W W1)(hW:WrT W1 b t)(a5:J w.1<=b)(a6:IS w0 va t.e)(a4:oW W3 (J w.1) 200 2 (sZ g 0 (E es+1) c) (E es+1) (es.flatMap rcl++[va,.map (Q b)]))(a3:(S W1 o).grownBy W3 v.ownBlock)(a7:Bl w W3):RtM w0 w W3 (sZ g 0 (E es+1) c) (es++[(va,b,t)]):=by
 have far:∀{x:Nat} {t:TbV},WrT W1 x t->WrT W3 x t:=λ{x t} hx=>by
  have⟨ks,D,M,hx,hM⟩:=hx;have h2:=hx.O (eB.alloc eA o);exact⟨ks,D,M,h2.A (a3.block x h2.lt (QM (qB h.z h1) hx.map)),hM⟩
 refine⟨by rw[lA,lS,dM];exact a4,λe he=>?_,λe he=>?_,a7⟩
 ·rcases cF.1 he with he|he;exact h.m e he;rw[cI.1 he];exact a6
 rcases cF.1 he with he|he;have⟨h0,h2⟩:=h.maps e he;exact⟨h0,far (h2.A (h1.block _ h2.lt))⟩;rw[cI.1 he];exact⟨a5,far hW⟩
def RgS(w0 W:oX)(lo:Nat)(v:oV)(ts:List TbV):Prop:=∃a cap,v=Z a (E ts) cap/\(E ts=0∨∃b o,a=Q (az b o)/\lo<=b/\∀j,j<E ts->∃aa na ca m,eQ W (az b (o+j*2))=Q (Z aa na ca)/\eQ W (az b (o+j*2+1))=Q (.map (Q m))/\IS w0 (Z aa na ca) (U ts j qA).e/\lo<=m/\WrT W m (U ts j qA))
def RgS.keep{w0 W W':oX}{lo:Nat}{ts:List TbV}{v:oV}(h:RgS w0 W lo v ts)(hk:∀k,lo<=k->k<J W.1->W'.1[k]?=W.1[k]?):RgS w0 W' lo v ts:=by
 obtain⟨a,cap,rfl,h⟩:=h;refine⟨a,cap,rfl,?_⟩;rcases h with h|⟨b,o,rfl,hb,h⟩;exact .inl h;refine .inr ⟨b,o,rfl,hb,λj hj=>?_⟩;have⟨aa,na,ca,m,h1,h2,h3,h0,h4⟩:=h j hj;have e:=hk b hb (bL W _ h1);exact⟨aa,na,ca,m,(bF e).trans h1,(bF e).trans h2,h3,h0,h4.A (hk m h0 h4.lt)⟩
def qAN:∀{es:List RtT} {i:Nat},i<E es->(es.flatMap rcl)[i*2]?=Q (U es i ft).1/\(es.flatMap rcl)[i*2+1]?=Q (.map (Q (U es i ft).2.1))
 |e::es,0,_=>⟨rfl,rfl⟩
 |e::es,i+1,h=>by
  have⟨h1,h2⟩:=qAN (es:=es) (i:=i) (by simpa using h);rw[show(i+1)*2=i*2+1+1 by omega];exact⟨h1,h2⟩
def RtM.is{w0 w W:oX}{v:oV}{es:List RtT}(h:RtM w0 w W v es):RgS w0 W (J w.1) v (es.map λe=>e.2.2):=by
 have hl:E (es.map λe=>e.2.2)=E es:=lM ..;unfold RgS;rw[hl];rcases h.z.2 with ⟨rfl,hn⟩|⟨g,cap,cur,rfl,a3,hh,hn,-,-,ht⟩;exact⟨wH,0,by rw[hn],.inl hn⟩;refine⟨_,cap,rfl,.inr ⟨g,0,rfl,a3,λj hj=>?_⟩⟩;have⟨f1,f2⟩:=qAN hj;have hm:=qz (d:=ft) hj;have hg:U (es.map λe=>e.2.2) j qA=(U es j ft).2.2:=by
  rw[gD,bK,gD,gE hj];rfl
 have hl:=h.m _ hm;obtain⟨aa,ca,ea,-⟩:=id hl;rw[cU,hg];refine⟨aa,_,ca,(U es j _).2.1,?_,?_,ea▸hl,h.maps _ hm⟩;rw[eI hh,<-ea,<-f1,<-ht,cL Oo,dY];rw[eI hh,<-f2,<-ht,cL Oo,dY]
def cN(hl:LI)(tl:List TbV)(i:Int):Nat->List TbV
 |0=>[]
 |j+1=>if U hl j 0=i then cN hl tl i j++[U tl j qA] else cN hl tl i j
def fu(hl:LI)(tl:List TbV)(i:Int):∀j,E (cN hl tl i j)<=j
 |0=>eA
 |j+1=>by
  have:=fu hl tl i j;unfold cN;split;rw[lA,lS];omega;omega
def qAO(w0 w:oX)(p0 p1:Option Addr)(n0 n1 c0 c1:Nat)(vh vt:oV)(hl:LI)(tl:List TbV)(i:Int)(e4:Bl w0 w)(hh:IS w vh hl)(ht:ITs w0 vt tl)(hlen:E hl=E tl)(hn:E tl<=1000)(c8:∀t∈tl,qW t)(c9:∀t∈tl,Wf t.x):
 Cl 98 #[aQ #[Z p0 n0 c0,Z p1 n1 c1,vh],ai i,vt] w λe w'=>∃v,e=rE v/\RgS w0 w' (J w.1) v (cN hl tl i (E tl))/\Bl w w':=by
 obtain⟨iR,hi,e5,e6,e7⟩:=aX Tryz.infoRt;obtain⟨ah,kh,rfl,a9⟩:=hh;obtain⟨at_,kt,rfl,b8⟩:=ht;rw[hlen]at a9 ⊢;obtain⟨n,d3⟩:=Ex (E tl);rw[<-d3]at a9 b8 hn ⊢;obtain⟨W1,b7⟩:=Ex (S w (eZ #[Z p0 n0 c0,Z p1 n1 c1,Z ah n kh] 97))
 have d5:ArrAt W1 (J w.1) 3 (f3 (Z p0 n0 c0) (Z p1 n1 c1) (Z ah n kh)):=b7▸qj w 3 (f3 _ _ _) _
 have d6:Hh (RtM w0 w W1 sn []/\([]:List RtT).map (λe=>e.2.2)=cN hl tl i 0):=⟨⟨oN _ _ _ _,λe he=>(by cases he),λe he=>(by cases he),by rw[b7];exact(bJ _ _).alloc (nR _) _⟩,rfl⟩;have HH:=ay a9;have HT:=ay b8;have HK:Hh (∀j,j<n->qW (U tl j qA)/\Wf (U tl j qA).x):=λj hj=>by
  have:=qz (l:=tl) (d:=qA) (i:=j) Oo;exact⟨c8 _ this,c9 _ this⟩
 obtain⟨t0,t1,t2⟩:=d5.three;clear a9 b8 c8 c9 d5 d3 hlen;go_enter func98,ntmps98;go_upto_region 1 with fail;rw[<-b7];clear b7;go_wp2;go_loopw [7,13] (λv t wr=>∃(j:Nat) (es:List RtT),j<=n/\t=ai j/\E es<=j/\Hh (RtM w0 w wr v es/\es.map (λe=>e.2.2)=cN hl tl i j)) (λ_ t _=>n-(intOf t).toNat);exact⟨0,[],eC,rfl,eA,d6⟩;clear d6 t0 t1 t2;obtain⟨j,es,hj,rfl,f9,HX⟩:=hrel;by_cases b9:j<n
 ·have i1:=aV b9;rcases HH.o with h0|⟨b1,o1,rfl,e8⟩;omega;rcases HT.o with h0|⟨b2,o2,rfl,e9⟩;omega;have e1:eQ wr (az b1 (o1+j))=Q (ai (U hl j 0)):=qF HX.1.O (e8 j b9);have HJ:Hh (cN hl tl i (j+1)=if U hl j 0=i then cN hl tl i j++[U tl j qA] else cN hl tl i j):=rfl;generalize U hl j 0=x at *;by_cases hx:x=i
  ·subst hx;have⟨v0,v1,v2,d0,d1,d2,a6⟩:=e9 j b9;have a4:=bt e4 HX.1.O;have g0:=qF a4 d0;have g1:=qF a4 d1;have g2:=qF a4 d2;have⟨d7,d8⟩:=HK j b9;have KR:Hh (Cl 141 #[aQ #[v0,v1,v2]] wr λe w'=>∃b,e=rE (aQ #[v0,.map (Q b)])/\J wr.1<=b/\WrT w' b (U tl j qA)/\Bl wr w'):=UA _ _ _ _ _ _ _ (a6.zz a4) d7 d8;have HV:Hh (IS w0 v0 (U tl j qA).e):=a6.e;have g4:=HX.1.O.size;obtain⟨y0,z0,rfl,-⟩:=a6.e;obtain⟨y1,z1,rfl,-⟩:=a6.x;obtain⟨y2,z2,rfl,-⟩:=a6.k;clear a6 d0 d1;go_wp2_with (first
    |(go_at_call 141;apply KR.o.mono;rintro e w2 ⟨b,rfl,g5,d9,a5⟩;have c7:=qB HX.1.z a5;have g6:=a5.size)
    |(at_builtin;refine wpList_append_lies _ rfl _ _ 151 rfl (J w.1) 200 iR (aQ #[sn,.map wH]) 2 32 underlying151 hi e5 e6 e7 rfl Dd u7 (E es) (es.flatMap rcl) rfl (c7.alloc _) (az _ 0) 1 1 [Z y0 _ z0,.map (Q b)] rfl rfl (gR _ _ _ _) (λu hu=>by simp at hu;rcases hu with rfl|rfl <;> rfl) Dd Um Oo Sy _ rfl ?_;intro g3 c3 w4 a7 a3 f7 f8)
    |fail)
   have e0:Bl w w4:=((bt HX.1.O a5).alloc Oo _).grown a3 Sy (λk hk=>(c7.lt k hk).1);obtain⟨a8,e2,e3,g7⟩:∃a8:List RtT,RtM w0 w w4 (sZ g3 0 (E es+1) c3) a8/\a8.map (λe=>e.2.2)=cN hl tl x (j+1)/\E a8=E es+1:=⟨_,HX.o.1.push a5 d9 Oo HV.o a7 a3 e0,by rw[HJ.o,fE trivial,mA,HX.o.2];rfl,Ss⟩;have HE:=ay (And.intro e2 e3);go_roundw;exact⟨j+1,a8,Oo,Gg,Oo,HE⟩;exact Im
  go_wp2;go_roundw;exact⟨j+1,es,Oo,Gg,Oo,ay ⟨HX.1,by rw[HJ.o,fF hx];exact HX.2⟩⟩;exact Im
 obtain rfl:j=n:=Oo;go_wp2;go_ret;refine⟨_,rfl,?_,HX.o.1.O⟩;rw[<-HX.o.2];exact HX.1.is
def xM(l x:LI):LI:=(range 6).map (xS l λi=>U x i 0)
def qHf(l x:LI):asL (xM l x)=asV (xS l λi=>U x i 0):=rfl
def uq{l x:LI}(hx:Ok6 x):Ok6 (xM l x):=by
 refine⟨by unfold xM;simp,λz hz=>?_⟩;obtain⟨i,-,rfl⟩:=cC.1 hz;unfold xS xR;split;exact hx.at i;show(-9223372036854775808:Int)<=0/\(0:Int)<=9223372036854775807;decide
def K5(r:Nat)(xs:LI):Int:=xs.foldl (λz x=>tim r z (wor r x)) (onr r)
def fN(r:Nat)(xs:LI)(x:Int):K5 r (xs++[x])=tim r (K5 r xs) (wor r x):=by
 unfold K5;rw[foldl_append];rfl
def qDb{r:Nat}(hr:X4 r)(w0 w:oX)(lo pm:Nat)(a:LI)(vr:oV)(ts:List TbV)(wt:TbV->Int)(hm:eQ w (az pm 0)=Q (rgV r))(ha:Ok6 a)(g7:Bl w0 w)(g8:RgS w0 w lo vr ts)(hn:E ts<=1000)(hv:∀t∈ts,(∀y∈t.e,0<=y/\y<6)/\E t.e<=1000)(d9:∀t∈ts,∀M,RwM t.e t.x t.k (E t.x) M->M (xM t.e a)=Q (wt t)):
 Cl 137 #[pZ pm 0,asL a,vr] w λe w'=>e=rE (ai (K5 r (ts.map wt)))/\Bl w w':=by
 have h9:Tryz.prog.follows .mixedOrders:=Kl;have b7:Hh (∀l,keyOf wD 140 (asL (xM l a))=Q (kla (xM l a))):=ay λl=>yP (uq ha);have b7:Hh (∀l,keyOf wD 140 (asV (xS l λi=>U a i 0))=Q (kla (xM l a))):=b7;unfold asL;have⟨f,hf⟩:=Ex (λi=>U a i 0);rw[<-hf]at b7 ⊢;clear hf;have g9:=ay g7;have HV:=ay hv;have HT:=ay d9;obtain⟨ar,kr,rfl,c9⟩:=g8;have⟨n,d2⟩:=Ex (E ts);rw[<-d2]at c9 hn ⊢;have⟨W1,b8⟩:=Ex (S w (eZ #[ai (f 0),ai (f 1),ai (f 2),ai (f 3),ai (f 4),ai (f 5)] 140));have d3:Bl w W1:=by rw[b8];exact(bJ _ _).alloc (nR _) _
 have e0:ArrAt W1 (J w.1) 6 λi=>ai (f i):=b8▸six f _
 have d4:Hh (Bl w W1/\ArrAt W1 (J w.1) 6 λi=>ai (f i)):=ay ⟨d3,e0⟩;have i0:pm<J w.1:=bL w _ hm;have HM:Hh (eQ w (az pm 0)=Q (.iface (rgT r) (aQ #[]))):=ay hm;have c0:=qF d3 HM;have HC:=ay c9;have HN:=ay d2;have KO:Hh (∀W,Cl (onN r) #[aQ #[]] W λe w'=>e=rE (ai (onr r))/\Bl W w'):=gQ;have KW:Hh (∀W x,Cl (woN r) #[aQ #[],ai x] W λe w'=>e=rE (ai (wor r x))/\Bl W w'):=fs;have KT:Hh (∀W x y,Cl (tiN r) #[aQ #[],ai x,ai y] W λe w'=>e=rE (ai (tim r x y))/\Bl W w'):=fM;have h1:=Tryz.oneM hr;have h2:=Tryz.timesM hr;have h3:=Tryz.worthM hr;have i3:K5 r []=onr r:=rfl;generalize b9:rgT r=T at *;generalize a4:onN r=N1 at *;generalize a5:tiN r=N2 at *;generalize a6:woN r=N3 at *;clear e0 d3 hm c9 d2 hv d9;unfold asV;rcases hr with hr|hr|hr;all_goals
  rw[hr]at b9 a4 a5 a6
  have b9:=b9.symm
  have a4:=a4.symm
  have a5:=a5.symm
  have a6:=a6.symm
  simp only[rgT,onN,tiN,woN,Nat.reduceEqDiff,reduceIte]at b9 a4 a5 a6
  rw[a4]at KO h1
  rw[a5]at KT h2
  rw[a6]at KW h3
  clear a4 a5 a6 hr
  go_enter func137,ntmps137
  go_upto_region 1 with fail
  rw[<-b8]
  clear b8
  go_wp2_with (first
   |((first|go_at_call 273|go_at_call 278);apply (KO.o _).mono;rintro e w2 ⟨rfl,d5⟩)
   |fail)
  have e1:Hh ((Bl w w2/\ArrAt w2 (J w.1) 6 λi=>ai (f i))/\onr r=K5 r ((ts.take 0).map wt)):=⟨⟨bt d4.1 d5,d4.2.zz Oo d5⟩,rfl⟩
  clear d4 d5 c0 KO
  go_loopw [7,17] (λx t wr=>∃(j:Nat) (z:Int),j<=n/\t=ai j/\x=ai z/\Hh ((Bl w wr/\ArrAt wr (J w.1) 6 λi=>ai (f i))/\z=K5 r ((ts.take j).map wt))) (λ_ t _=>n-(intOf t).toNat);exact⟨0,_,eC,rfl,rfl,e1⟩
  clear e1
  obtain⟨j,z,hj,rfl,rfl,HX⟩:=hrel
  obtain⟨⟨x0,x1⟩,hz⟩:=HX.o
  by_cases e2:j<n
  ·have i1:=aV e2
   have d6:j<E ts:=HN.o▸e2
   rcases HC.o with h0|⟨b1,o1,rfl,-,h4⟩;omega
   obtain⟨aa,na,ca,m,d0,d1,e3,-,ks,D,M,e4,e5⟩:=h4 j e2
   have a8:=qz (d:=qA) d6
   obtain⟨h5,h6⟩:=HV _ a8
   have c7:=HT _ a8 M e5
   have e6:K5 r ((ts.take (j+1)).map wt)=tim r z (wor r (wt (U ts j qA))):=by
    rw[tA,gE d6,mA,hz,gdR d6];exact fN _ _ _
   generalize U ts j qA=tb at *
   generalize tb.e=l at *
   generalize hxw:wt tb=xw at *
   have g0:=qF x0 d0
   have g1:=qF x0 d1
   go_upto_region 5 with fail
   have d7:Bl wr (S wr (eZ #[Z aa na ca,.map (Q m)] 200)):=aK
   have a9:=qj wr 2 (f2 (Z aa na ca) (.map (Q m))) 200
   have a9:ArrAt (S wr (eZ #[Z aa na ca,.map (Q m)] 200)) (J wr.1) 2 (f2 (Z aa na ca) (.map (Q m))):=a9
   have a7:=bt x0 d7
   have a3:=x1.zz Oo d7
   generalize (S wr (eZ #[Z aa na ca,.map (Q m)] 200))=W2 at *
   generalize J wr.1=z1 at *
   have KN:Hh (∀W,Bl W2 W->Cl 136 #[aQ #[ai (f 0),ai (f 1),ai (f 2),ai (f 3),ai (f 4),ai (f 5)],Z aa na ca] W λe w'=>e=rE (asV (xS l f))/\Bl W w'):=λW hW=>jq W f l ((e3.zz g9).zz (bt a7 hW)) h6 h5
   have c8:=b7 l
   have HS:Hh (∀W,Bl W2 W->eQ W (az pm 0)=Q (.iface T (aQ #[]))/\eQ W (az z1 0)=Q (Z aa na ca)/\eQ W (az z1 1)=Q (.map (Q m))/\eQ W (az (J w.1) 0)=Q (ai (f 0))/\eQ W (az (J w.1) 1)=Q (ai (f 1))/\eQ W (az (J w.1) 2)=Q (ai (f 2))/\eQ W (az (J w.1) 3)=Q (ai (f 3))/\eQ W (az (J w.1) 4)=Q (ai (f 4))/\eQ W (az (J w.1) 5)=Q (ai (f 5))):=λW hW=>⟨(hW.cell (p:=(az pm 0)) (by show pm<_;have:=a7.size;omega)).trans (qF a7 HM.o),(a9.zz Oo hW).cell 0 Oo,(a9.zz Oo hW).cell 1 Oo,(a3.zz Oo hW).cell 0 Oo,(a3.zz Oo hW).cell 1 Oo,(a3.zz Oo hW).cell 2 Oo,(a3.zz Oo hW).cell 3 Oo,(a3.zz Oo hW).cell 4 Oo,(a3.zz Oo hW).cell 5 Oo⟩
   have d8:=ay (e4.O a7)
   have e7:=ay c7
   have e8:=ay e6
   have e9:=ay a7
   have f7:=ay a3
   have b0:Bl W2 W2.drew:=eB.drew
   clear x0 x1 HX a9 a7 a3 d7 e3 e4 g0 g1 d0 d1 c7 e6 hz e5 hxw a8
   go_region_held_law (λW=>eQ W (az pm 0)=Q (.iface T (aQ #[]))/\eQ W (az z1 0)=Q (Z aa na ca)/\eQ W (az z1 1)=Q (.map (Q m))/\eQ W (az (J w.1) 0)=Q (ai (f 0))/\eQ W (az (J w.1) 1)=Q (ai (f 1))/\eQ W (az (J w.1) 2)=Q (ai (f 2))/\eQ W (az (J w.1) 3)=Q (ai (f 3))/\eQ W (az (J w.1) 4)=Q (ai (f 4))/\eQ W (az (J w.1) 5)=Q (ai (f 5)))
    (first
     |with_reducible exact HS.o _ b0
     |with_reducible exact HS.o _ bW
     |with_reducible exact HS.o _ bX
     |with_reducible exact HS.o _ bY
     |fail)
    (first
     |(go_simp;go_at_call 136;with_reducible apply (KN.o _ b0).mono;rintro e i4 ⟨rfl,f8⟩;have bW:=bt b0 f8;obtain⟨vv,ps,h7,hvv⟩:=(d8.o.O bW).map.z.lookup Tryz.lawA Tryz.underWo (Tryz.zeroA _) (zd:=.lit (.int .i64 0)) (zp:=[]) rfl c8;obtain rfl:=(d8.o.O bW).at e7.o hvv)
     |(go_simp;(first|go_at_call 277|go_at_call 276|go_at_call 281);apply (KW.o _ _).mono;rintro e i5 ⟨rfl,f9⟩;have bX:=bt bW f9)
     |(go_simp;(first|go_at_call 275|go_at_call 280);apply (KT.o _ _ _).mono;rintro e g4 ⟨rfl,g5⟩;have bY:=bt bX g5)
     |fail)
   all_goals
    have HE:Hh ((Bl w g4/\ArrAt g4 (J w.1) 6 λi=>ai (f i))/\tim r z (wor r xw)=K5 r ((ts.take (j+1)).map wt)):=⟨⟨bt e9.o bY,f7.o.zz Oo bY⟩,e8.o.symm⟩
    clear bY bX bW b0 HS KN c8 d8 e9 f7 h7 hvv e8 e7 KW KT
    go_wp2
    go_roundw;exact⟨j+1,_,Oo,Gg,rfl,HE⟩;exact Im
  have g6:j=n:=Oo
  rw[g6]at hz
  subst g6
  have i1:=aY j
  rw[HN.o,tL]at hz
  have h8:=ay hz
  clear hz
  go_wp2
  go_ret
  exact⟨by rw[<-h8.o];rfl,x0⟩
def kK(v:oV):Option (DataW Unit×List MemPlace):=match v with
 | .map (Q c)=>Q (.lit (.int .i64 c),[])
 | .map wH=>Q (.lit (.int .i64 (-1)),[])
 |_=>wH
def qAD{v:oV}{z:DataW Unit×List MemPlace}(h:kK v=Q z):∃r,v=.map r:=by
 unfold kK at h;split at h;exact⟨_,rfl⟩;exact⟨_,rfl⟩;cases h
def Zk{v:oV}{c:Nat}{ps:List MemPlace}(h:kK v=Q (.lit (.int .i64 c),ps)):v=.map (Q c):=by
 unfold kK at h;split at h;simp only[oI,rD,DataW.lit.injEq,Lit.int.injEq,true_and]at h;rw[Int.ofNat_inj.1 h.1];simp only[oI,rD,DataW.lit.injEq,Lit.int.injEq,true_and]at h;omega;cases h
def Tryz.zeroW(w:oX):(zeroValue 115).run wD w=.ok (.map wH) w:=Kl
structure En(W:oX)(B be:Nat)(iQ:LI->LI->Option Int)(es:List (LI×Nat))(D:DataW Unit):Prop where
 map:Wm kK W be (es.map wM) D
 ref:∀e∈es,∀zd,D.atKey (kla e.1) zd=.lit (.int .i64 e.2)
 inner:∀e∈es,∃ks D',mQ W e.2 ks D' (iQ e.1)
 ap:(es.map wL).Nodup
 low:∀e∈es,B<=e.2
 all:∀s a x,iQ s a=Q x->s∈es.map wM
structure Kg(sS:Nat->Prop)(w W:oX):Prop where
 os:W.os=w.os
 tape:W.tape=w.tape
 output:W.output=w.output
 size:J w.1<=J W.1
 block:∀k,k<J w.1->¬sS k->W.1[k]?=w.1[k]?
section
variable {sS:Nat->Prop} {w W W':oX}
def Kg.refl(sS:Nat->Prop)(w:oX):Kg sS w w:=⟨rfl,rfl,rfl,eA,λ_ _ _=>rfl⟩
def Kg.P(h:Kg sS w W)(g:Bl W W'):Kg sS w W':=⟨g.os.trans h.os,g.tape.trans h.tape,g.output.trans h.output,bM h.size g.size,λk h1 h2=>(g.block k (bN h1 h.size)).trans (h.block k h1 h2)⟩
def Kg.grown{r:Option Nat}(h:Kg sS w W)(g:W.grownBy W' r)(hr:∀k,r=Q k->sS k∨J w.1<=k):Kg sS w W':=⟨g.os.trans h.os,g.tape.trans h.tape,g.output.trans h.output,bM h.size g.size,λk h1 h2=>(g.block k (bN h1 h.size) (λe=>by
 rcases hr k e.symm with h3|h3;exact h2 h3;omega)).trans (h.block k h1 h2)⟩
def Kg.kb{c:Nat}(h:Kg sS w W)(g:Kb c W W')(hc:sS c):Kg sS w W':=⟨g.os.trans h.os,g.tape.trans h.tape,g.output.trans h.output,bM h.size g.size,λk h1 h2=>(g.block k (bN h1 h.size) (λe=>h2 (e▸hc))).trans (h.block k h1 h2)⟩
end
section
variable {W W' W'':oX} {B be:Nat} {iQ:LI->LI->Option Int} {es:List (LI×Nat)} {D:DataW Unit}
def En.A(h:En W B be iQ es D)(h0:W'.1[be]?=W.1[be]?)(h1:∀e∈es,W'.1[e.2]?=W.1[e.2]?):En W' B be iQ es D:=
 ⟨h.map.A h0,h.ref,λe he=>by obtain⟨ks,D',h2⟩:=h.inner e he;exact⟨ks,D',h2.A (h1 e he)⟩,h.ap,h.low,h.all⟩
def En.O(h:En W B be iQ es D)(hb:Bl W W'):En W' B be iQ es D:=h.A (hb.block _ h.map.lt) λe he=>by
 have⟨ks,D',h2⟩:=h.inner e he;exact hb.block _ h2.lt
def En.zv(w:oX):En (S w (.map #[] 0)) B (J w.1) (λ_ _=>wH) [] (.map []):=⟨Wm.zv w,λe h=>(by cases h),λe h=>(by cases h),nodup_nil,λe h=>(by cases h),λ_ _ _ h=>by cases h⟩
def cg(r:Nat)(iQ:LI->LI->Option Int)(s:LI)(Mf:LI->Option Int)(x:LI):LI->Option Int:=if x=s then dj r (iQ x) Mf else iQ x
def En.push{s:LI}{bf r:Nat}{ks:LL}{Df:DataW Unit}{Mf:LI->Option Int}{n:Nat}(h:En W B be iQ es D)(hs:Ok6 s)(hn:s∉es.map wM)(hf:mQ W bf ks Df Mf)(a3:B<=bf)(a5:bf∉es.map wL)(a8:be<B)(ho:W'.ownsMap wD 140 kK be n (D.put (kla s) (.lit (.int .i64 bf))))(ht:W.mapTurned W' be):En W' B be (cg r iQ s Mf) (es++[(s,bf)]) (D.put (kla s) (.lit (.int .i64 bf))):=by
 have far:∀{x:Nat} {k2:LL} {D2:DataW Unit} {M2:LI->Option Int},B<=x->mQ W x k2 D2 M2->mQ W' x k2 D2 M2:=λ{x k2 D2 M2} hx h2=>h2.A (ht.grown.block x h2.lt Sy);have hm:=h.map.put hs ho;have e1:xa s (es.map wM)=(es++[(s,bf)]).map Prod.fst:=by unfold xa;rw[fF hn,mA];rfl
 rw[e1]at hm;have a4:∀e∈es,e.1≠s:=λe he e2=>hn (e2 ▸ dF he);have a6:∀e∈es,Ok6 e.1:=λe he=>h.map.ok _ (dF he);refine⟨hm,λe he zd=>?_,λe he=>?_,?_,λe he=>?_,λx a y hx=>?_⟩
 ·rcases cF.1 he with he|he;rw[atKey_put_other λe2=>a4 e he (XR (a6 e he) hs e2)];exact h.ref e he _;rw[cI.1 he];exact atKey_put_same (h.map.z.tidy Tryz.lawA).isMap (V0 hs) _ _
 ·rcases cF.1 he with he|he;have⟨k2,D2,h2⟩:=h.inner e he;exact⟨k2,D2,(far (h.low e he) h2).V λa=>by unfold cg;rw[fF (a4 e he)]⟩;rw[cI.1 he];refine⟨ks,Df,(far a3 hf).V λa=>?_⟩;have a7:iQ s a=none:=by
   cases e5:iQ s a with
   |none=>rfl
   |some y=>exact absurd (h.all s a y e5) hn
  unfold cg;rw[fE rfl];unfold dj bu;rw[a7];cases Mf a <;> rfl
 rw[mA];exact nodup_append.2 ⟨h.ap,Ss,λx hx y hy=>by simp at hy;subst hy;exact λe=>a5 (e ▸ hx)⟩
 ·rcases cF.1 he with he|he;exact h.low e he;rw[cI.1 he];exact a3
 rw[mA];by_cases e5:x=s;rw[e5];exact dX _ (cI.2 rfl);unfold cg at hx;rw[fF e5]at hx;exact dW _ (h.all x a y hx)
def En.V{Q':LI->LI->Option Int}(h:En W B be iQ es D)(e:∀s a,Q' s a=iQ s a):En W B be Q' es D:=by
 rw[show Q'=iQ from funext λs=>funext (e s)];exact h
def XQ{α β:Type}{f:α->β}:∀{l:List α},(l.map f).Nodup->∀{x y},x∈l->y∈l->f x=f y->x=y
 |[],_,x,_,hx,_,_=>by cases hx
 |a::l,h,x,y,hx,hy,e=>by
  rw[map_cons,nodup_cons]at h;rcases cH.1 hx with e1|h1
  ·rcases cH.1 hy with e2|h2;rw[e1,e2];exact absurd (by rw[<-e1,e];exact dF h2) h.1
  rcases cH.1 hy with e2|h2;exact absurd (by rw[<-e2,<-e];exact dF h1) h.1;exact XQ h.2 h1 h2 e
def En.join{s:LI}{c n r:Nat}{k2:LL}{Mf:LI->Option Int}{D2:DataW Unit}(h:En W B be iQ es D)(he:(s,c)∈es)(hk:Kb c W W')(hc:mQ W' c k2 D2 (dj r (iQ s) Mf))(a5:be<B)(ho:W''.ownsMap wD 140 kK be n (D.put (kla s) (.lit (.int .i64 c))))(ht:W'.mapTurned W'' be):En W'' B be (cg r iQ s Mf) es (D.put (kla s) (.lit (.int .i64 c))):=by
 have a3:=h.low _ he;have hs:Ok6 s:=h.map.ok s (dF (f:=wM) he);have far:∀{x:Nat} {k3:LL} {D3:DataW Unit} {M3:LI->Option Int},B<=x->mQ W' x k3 D3 M3->mQ W'' x k3 D3 M3:=λ{x k3 D3 M3} hx h2=>h2.A (ht.grown.block x h2.lt Sy);have h0:Wm kK W' be (es.map wM) D:=h.map.A (hk.block _ h.map.lt Oo);have hm:=h0.put hs ho;have e1:xa s (es.map wM)=es.map Prod.fst:=by unfold xa;rw[fE (dF (f:=wM) he)]
 rw[e1]at hm;have a4:∀e∈es,Ok6 e.1:=λe he=>h.map.ok _ (dF he);refine⟨hm,λe h1 zd=>?_,λe h1=>?_,h.ap,h.low,λx a y hx=>?_⟩
 ·by_cases e2:e.1=s;have e3:e=(s,c):=XQ h.map.nd h1 he e2;rw[e3];exact atKey_put_same (h0.z.tidy Tryz.lawA).isMap (V0 hs) _ _;rw[atKey_put_other λe3=>e2 (XR (a4 e h1) hs e3)];exact h.ref e h1 _
 ·by_cases e2:e.1=s;have e3:e=(s,c):=XQ h.map.nd h1 he e2;rw[e3];exact⟨k2,D2,(far a3 hc).V λa=>by show cg r iQ s Mf s a=_;unfold cg;rw[fE rfl]⟩;have⟨k3,D3,h2⟩:=h.inner e h1;exact⟨k3,D3,(far (h.low e h1) (h2.A (hk.block _ h2.lt (λe4=>e2 (congrArg _ (XQ h.ap h1 he e4)))))).V λa=>by unfold cg;rw[fF e2]⟩
 by_cases e5:x=s;rw[e5];exact dF he;unfold cg at hx;rw[fF e5]at hx;exact h.all x a y hx
end
def Ent(be:Nat)(es:List (LI×Nat))(k:Nat):Prop:=k=be∨k∈es.map wL
def qDW{r:Nat}(hr:X4 r)(w:oX)(B be pm bf:Nat)(iQ:LI->LI->Option Int)(es:List (LI×Nat))(D Df:DataW Unit)(s:LI)(ks:LL)(Mf:LI->Option Int)(h:En w B be iQ es D)(hm:eQ w (az pm 0)=Q (rgV r))(hf:mQ w bf ks Df Mf)(hs:Ok6 s)(e1:B<=bf)(d2:bf∉es.map wL)(d3:be<B)(e6:pm<B)(hn:E es<=1000000)(hQ:∀k2:LL,k2.Nodup->(∀a∈k2,∃x,iQ s a=Q x)->E k2<=500000)(e7:E ks<=500000):
 Cl 139 #[.map (Q be),asL s,.map (Q bf),.func (.func 140) #[pZ pm 0] #[]] w λe w'=>e=rE (.tuple #[])/\(∃d4,(∃D',En w' B be (cg r iQ s Mf) d4 D')/\E d4<=E es+1)/\Kg (Ent be es) w w':=by
 have hk:=yP hs;unfold asL at hk ⊢;obtain⟨f,d5⟩:=Ex (λi=>U s i 0);rw[<-d5]at hk ⊢;clear d5;obtain⟨W1,b8⟩:=Ex (S w (eZ #[ai (f 0),ai (f 1),ai (f 2),ai (f 3),ai (f 4),ai (f 5)] 140));have hA:ArrAt W1 (J w.1) 6 λi=>ai (f i):=b8▸six f _
 have a9:Bl w W1:=by rw[b8];exact(bJ _ _).alloc (nR _) _
 have HE:=ay (h.O a9);have HF:=ay (hf.O a9);have c7:=(h.O a9).map.z;have HA:=ay hA;have HB:=ay a9;have HM:=ay (qF a9 hm);have e2:E (es.map wM)=E es:=lM _;have e3:Hh (∀e∈es,e.2<J w.1):=ay λe he=>by obtain⟨k2,D2,h2⟩:=h.inner e he;exact h2.lt
 have a0:=hA.cell 0 Oo;have a1:=hA.cell 1 Oo;have a2:=hA.cell 2 Oo;have a3:=hA.cell 3 Oo;have a4:=hA.cell 4 Oo;have a5:=hA.cell 5 Oo;have HO:=ay hs;have HQ:=ay hQ;have HP:=ay d2;have d6:E (es.map wM)<maxLen:=Um;clear hA a9 h hf hm hs hQ d2 e2;unfold asV at hk ⊢;go_enter func139,ntmps139;go_upto_region 1 with fail;rw[<-b8];clear b8;go_upto_region 2 with (first|(at_lookup;refine wpList_lookup_own_ok _ rfl _ _ 147 rfl _ _ Tryz.lawA Tryz.underEn _ (Tryz.zeroW _) _ _ rfl _ (E (es.map wM)) D rfl c7 _ _ rfl hk ?_;intro v ps hv;obtain⟨rv,rfl⟩:=qAD hv)|fail);have hh:=HE.o.map.has s HO;cases hkn:Maps.has D (kla s)
 ·rw[hkn]at hh;have d7:s∉es.map Prod.fst:=pU hh.symm;clear hh hv;go_wp2_with (first|(at_mapUpdate;refine tI _ rfl _ _ _ 147 rfl _ _ Tryz.lawA Tryz.underEn _ _ (E (es.map wM)) D rfl c7 d6 _ _ _ rfl rfl hk _ _ rfl ?_;intro w1 c8 a7)|fail);refine bodyPost_end (nK rfl _ _ _) rfl ⟨rfl,⟨_,⟨_,HE.o.push HO d7 HF e1 HP d3 c8 a7⟩,Ss⟩,((Kg.refl _ w).P HB).kb ((Kb.refl be W1).turned a7) (Or.inl rfl)⟩
 rw[hkn]at hh;have d8:s∈es.map Prod.fst:=aN hh.symm;obtain⟨⟨s',c⟩,he,c9⟩:=cC.1 d8;have c9:s'=s:=c9;subst c9;rw[HE.o.ref _ he]at hv;obtain rfl:rv=Q c:=Value.map.inj (Zk hv);obtain⟨k1,D1,a6⟩:=HE.o.inner _ he;have a6:mQ W1 c k1 D1 (iQ s'):=a6;have e8:=HE.o.low _ he;have e9:c<J w.1:=e3 _ he;have f7:=HQ _ a6.map.nd λa ha=>(a6.key a).1 ha;have KS:Hh (Cl 140 #[pZ pm 0,.map (Q c),.map (Q bf)] W1 λe w'=>e=rE (.map (Q c))/\(∃d9 D,mQ w' c d9 D (dj r (iQ s') Mf)/\E d9<=E k1+E ks)/\Kb c W1 w'):=ay (qAP hr _ _ c _ _ _ _ _ _ _ HM a6 HF (λe=>HP (e ▸ dF (f:=wL) he)) Oo Oo);have f8:=a6.lt;have e0:=ay he;clear hh hv a6 he d8 HM HF;go_wp2_with fail;apply KS.o.mono;rintro e w2 ⟨rfl,⟨k2,D2,e5,-⟩,b9⟩;have b7:=HA.o.A (b9.block _ (HA.o.lt Oo) Oo);have b0:=b7.cell 0 Oo;have b1:=b7.cell 1 Oo;have b2:=b7.cell 2 Oo;have b3:=b7.cell 3 Oo;have b4:=b7.cell 4 Oo;have b5:=b7.cell 5 Oo;go_wp2_with (first
  |(at_mapUpdate;refine tI _ rfl _ _ _ 147 rfl _ _ Tryz.lawA Tryz.underEn _ _ (E (es.map wM)) D rfl ((HE.o.map.A (b9.block _ HE.o.map.lt Oo)).z) d6 _ _ _ rfl rfl hk _ _ rfl ?_;intro w3 d1 a8)
  |fail)
 refine bodyPost_end (nK rfl _ _ _) rfl ⟨rfl,⟨es,⟨_,HE.o.join e0 b9 e5 d3 d1 a8⟩,Oo⟩,(((Kg.refl _ w).P HB).kb b9 (Or.inr (dF (f:=wL) e0))).kb ((Kb.refl be w2).turned a8) (Or.inl rfl)⟩
def Zj(w:oX)(vv vo:oV)(vs os:LI)(h:IS w vv vs)(ho:IS w vo os)(hl:E vs<=1000)(a4:E os<=1099511627776):
 Cl 96 #[vv,vo] w λe w'=>∃v,e=rE v/\oW w' (J w.1) 3 1 v (E (shr vs os)) ((shr vs os).map ai)/\Bl w w':=by
 have KP:=ay (zq w _ _ _ _ h ho Oo a4);have HA:=ay (jt vs os);have KV:Hh (∀W vp,Bl w W->IS W vp (plc (λi=>oD (U vs i 0∈os)) (E vs))->Cl 94 #[vv,vp] W λe w'=>∃v,e=rE v/\oW w' (J W.1) 3 1 v (E (shr vs os)) ((shr vs os).map ai)/\Bl W w'):=λW vp hW hp=>by
  have:=xZ W _ _ _ _ ((ay h).o.zz hW) hp (by have:=xq (λi=>oD (U vs i 0∈os)) (E vs);omega) (λp hp=>by obtain⟨i,hi,-,rfl⟩:=y7.1 hp;omega);rwa[HA.o]at this
 obtain⟨a0,k0,rfl,-⟩:=h;obtain⟨a1,k1,rfl,-⟩:=ho;go_enter func96,ntmps96;go_wp2_with (first
  |(go_at_call 124;apply KP.o.mono;rintro e w2 ⟨v2,rfl,a5,a3⟩)
  |(go_at_call 94;apply (KV.o _ _ a3 (qN a5)).mono;rintro e w3 ⟨v3,rfl,a6,a7⟩)
  |fail)
 go_ret;exact⟨_,rfl,qE a6 a3.size,bt a3 a7⟩
def qB1{P:Program}(w:oX){w':oX}{base:Nat}{t ty e:TypeId}{i:TypeInfo}{z:oV}{size bytes:Nat}(ht:P.underlying t=Q (.slice e))(hi:P.info? e=Q i)(hz:i.zero=Q z)
 (a7:i.size=size) (b1:i.bytes=bytes) (v:oV) (n:Nat) (xs:List oV) (a5:oW w base e size v n xs)
 {ad:Addr} {m c:Nat} {news:List oV} (hl:E news=m*size) (a3:∀j u,news[j]?=Q u->w.cell? (ad.add j)=Q u) (h1:∀u∈news,u.oneCell') (b7:n+m<=maxLen) (a4:(n+m)*bytes<=140737488355328)
 {v':oV} (hr:(Builtin.append_ #[t,t] ty #[v,Z (Q ad) m c]).run P w=.ok v' w'):v'.ownBlock=v.ownBlock∨Bl w w':=by
 subst a7;subst b1;have a9:n+m<=9223372036854775807:=by simp only[maxLen]at b7;omega
 have dr:∀o:Obj,Bl w (w.drew.alloc o):=λo=>eB.drew.alloc eA o;rcases a5.2 with ⟨rfl,rfl⟩|⟨g,cap,cur,rfl,c7,hg,c8,c9,b8,b9⟩
 ·by_cases hm:m=0;subst hm;have hn:news=[]:=eq_nil_of_length_eq_zero (by simpa using hl);subst hn;simp[Builtin.append_,run_underlying ht,sizeOf,typeInfo,hi,Builtin.lenOf,Builtin.firstCells,loadCells,loadCellsFrom]at hr;rw[<-hr.2];exact .inr eB;have h2:=run_append_nil w t ty e i z ht hi hz _ m c _ hl a3 Oo Oo (by have hb:=a4;simp only[cU]at hb;omega);rw[h2]at hr;injection hr with _ e2;rw[<-e2];exact .inr (dr _)
 by_cases a6:n+m<=cap
 ·have h2:=run_append_room w t ty e i ht hi g n _ _ hg _ m c _ hl a3 h1 a6 (by rw[hl,b8,<-Nat.add_mul];exact Nat.mul_le_mul_right _ a6);rw[h2]at hr;injection hr with e1 _;rw[<-e1];exact .inl rfl
 have h2:=run_append_grow w t ty e i z ht hi hz _ n cap _ a5.1 (a5.cells rfl) _ m c _ hl a3 Oo Oo (growslice_fits Oo a4);rw[h2]at hr;injection hr with _ e2;rw[<-e2];exact .inr (dr _)
def YD{P:Program}(w:oX){ops:Array Oper}{o:Oper}{a:Act}{K:Act->oX->Prop}{iQ:Exit->Act->oX->Prop}{iE:Prop}(a9:o.guard=wH)(s x:Operand)(t:TypeId)
 (ho:o.op=.call { callee:=.builtin .append,args:=#[s,x],argTypes:=#[t,t] })
 (base:Nat) (e:TypeId) (i:TypeInfo) (z:oV) (size bytes:Nat) (ht:P.underlying t=Q (.slice e)) (hi:P.info? e=Q i) (hz:i.zero=Q z)
 (a5:i.size=size) (a7:i.bytes=bytes) (b1:z.cells.size=size) (b7:0<size)
 (v:oV) (n:Nat) (xs:List oV) (hs:a.eval s=v) (a3:oW w base e size v n xs)
 (b p m c:Nat) (vx:oV) (news:List oV) (hx:a.eval x=vx) (hp:(vx=sn/\m=0/\news=[])∨(vx=sZ b p m c/\E news=m*size/\∀j u,news[j]?=Q u->w.cell? (((az b p):Addr).add j)=Q u)) (h1:∀u∈news,u.oneCell')
 (a8:n+m<=maxLen) (a4:(n+m)*bytes<=140737488355328) (a6:base<=J w.1)
 (h:∀v' w',oW w' base e size v' (n+m) (xs++news)->w.grownBy w' v.ownBlock->(∀g,v'.ownBlock=Q g->v.ownBlock=Q g∨g=J w.1)->(v'.ownBlock=v.ownBlock∨Bl w w')->K (a.put o.dst v') w'):
 if Region.wanted o (yielded ops a.tmps)=true then Oper.wp P o a w K iQ else iE:=by
 have hw:Region.wanted o (yielded ops a.tmps):=by simp[Region.wanted,a9]
 rw[fE hw];rcases hp with ⟨rfl,rfl,rfl⟩|⟨rfl,hl,hc⟩;have hr:=run_append_owned_none w _ t o.type e i _ ht hi v n _ a3;unfold Oper.wp execOp;simp only[ho,resolve,invoke,builtin,Sem.run_bind,Sem.run_pure,Result.andThen_ok,map_toArray,map_cons,map_nil,hs,hx,hr];exact h v w (by simpa using a3) ⟨rfl,rfl,rfl,eA,λ_ _ _=>rfl⟩ (λg hg=>Or.inl hg) (Or.inl rfl);have⟨v',w',hr,h2,h3,_,h5⟩:=run_append_own_at w _ t o.type e i z _ _ ht hi hz a5 a7 b1 b7 v n _ a3 _ m c _ hl hc h1 a8 a4 a6;unfold Oper.wp execOp;simp only[ho,resolve,invoke,builtin,Sem.run_bind,Sem.run_pure,Result.andThen_ok,map_toArray,map_cons,map_nil,hs,hx,hr];exact h _ _ h2 h3 (λg hg=>h5.imp (λe=>by rw[<-e];exact hg) λe=>by rw[hg]at e;exact eU e) (qB1 w ht hi hz a5 a7 v n _ a3 hl hc h1 a8 a4 hr)
def PtI(w:oX)(v:oV)(l:LI):Prop:=(v=sn/\l=[])∨∃b p c,v=sZ b p (E l) c/\∀j,j<E l->eQ w (az b (p+j))=Q (ai (U l j 0))
def PtI.is{w:oX}{v:oV}{l:LI}(h:PtI w v l):IS w v l:=by
 rcases h with ⟨rfl,rfl⟩|⟨b,p,c,rfl,h⟩;exact⟨wH,0,rfl,.inl rfl⟩;exact⟨_,c,rfl,.inr ⟨b,p,rfl,h⟩⟩
def PtI.zz{w w':oX}{v:oV}{l:LI}(h:PtI w v l)(hb:Bl w w'):PtI w' v l:=by
 rcases h with h|⟨b,p,c,rfl,h⟩;exact .inl h;exact .inr ⟨b,p,c,rfl,λj hj=>qF hb (h j hj)⟩
def PtI.part{w:oX}{v:oV}{l:LI}(h:PtI w v l):∃b p c,(v=sn/\E l=0/\l.map ai=[])∨(v=sZ b p (E l) c/\E (l.map ai)=E l*1/\∀j u,(l.map ai)[j]?=Q u->w.cell? (((az b p):Addr).add j)=Q u):=by
 rcases h with ⟨rfl,rfl⟩|⟨b,p,c,rfl,h⟩;exact⟨0,0,0,.inl ⟨rfl,rfl,rfl⟩⟩;refine⟨b,p,c,.inr ⟨rfl,Ss,λj u hu=>?_⟩⟩;rw[bK,Option.map_eq_some_iff]at hu;obtain⟨x,hx,rfl⟩:=hu;have⟨hj,e⟩:=List.getElem?_eq_some_iff.1 hx;have e1:((az b p):Addr).add j=(az b (p+j)):=by simp[Addr.add]
 rw[e1,h j hj,gdR hj,e]
structure HdS(w W:oX)(sS:Nat->Prop)(lo pm:Nat)(vo v:oV)(ow L:LI):Prop where
 z:oW W lo 3 1 v (E (ow++L)) ((ow++L).map ai)
 is:IS W vo ow
 i:∀g,v.ownBlock=Q g->sS g∨J w.1<=g
 form:(vo=sn/\ow=[])∨∃g c,vo=sZ g 0 (E ow) c/\g<J W.1/\g≠pm
def HdS.P{w W W':oX}{sS:Nat->Prop}{lo pm:Nat}{vo v v':oV}{ow L l:LI}(h:HdS w W sS lo pm vo v ow L)(ho:oW W' lo 3 1 v' (E (ow++L)+E l) ((ow++L).map ai++l.map ai))(hg:W.grownBy W' v.ownBlock)(hb:∀g,v'.ownBlock=Q g->v.ownBlock=Q g∨g=J W.1)(hk:v'.ownBlock=v.ownBlock∨Bl W W')(hs:J w.1<=J W.1):HdS w W' sS lo pm vo v' ow (L++l):=by
 refine⟨by
  rw[<-dN];generalize ow++L=X at *;rw[lA,mA];exact ho,?_,λg hv=>?_,?_⟩
 ·rcases h.form with ⟨rfl,rfl⟩|⟨g,c,rfl,a3,-⟩;exact⟨wH,0,rfl,.inl rfl⟩;rcases hk with hk|hk
  ·by_cases e:v.ownBlock=Q g
   ·refine⟨_,c,rfl,.inr ⟨g,0,rfl,λj hj=>?_⟩⟩;have hc:=ho.cells (hk.trans e) j (ai (U ow j 0)) (by
     rw[aL (by rw[lM,lA];omega),bK,aL hj,gE hj,gdR hj];rfl)
    have e1:∀p:Nat,((az g p):Addr).add j=(az g (p+j)):=λp=>by simp[Addr.add]
    rw[<-e1 0];exact hc
   have⟨a,k,e1,h1⟩:=h.is;refine⟨a,k,e1,h1.imp id ?_⟩;rintro⟨b,o,e2,h2⟩;refine⟨b,o,e2,λj hj=>?_⟩;rw[e2]at e1;simp only[vI,oI,aI]at e1;rw[<-e1.1.1]at h2 ⊢;exact(bF (hg.block g a3 (λe2=>e e2.symm))).trans (h2 j hj)
  exact h.is.zz hk
 ·rcases hb g hv with h1|h1;exact h.i g h1;exact .inr Oo
 exact h.form.imp id λ⟨g,c,e,a3,hp⟩=>⟨g,c,e,bN a3 hg.size,hp⟩
def HdS.A{w W W':oX}{sS:Nat->Prop}{lo pm:Nat}{vo v:oV}{ow L:LI}(h:HdS w W sS lo pm vo v ow L)(hs:J W.1<=J W'.1)(h1:∀k,k<J W.1->k≠pm->W'.1[k]?=W.1[k]?)(h2:Q pm≠v.ownBlock):HdS w W' sS lo pm vo v ow L:=by
 have g:oW W' lo 3 1 v (E (ow++L)) ((ow++L).map ai):=by
  refine⟨h.z.1,?_⟩;rcases h.z.2 with h3|⟨g,cap,cur,e,hb,hg,rest⟩;exact .inl h3;refine .inr ⟨g,cap,cur,e,hb,(h1 g (dK.1 hg).1 λe2=>h2 (by rw[e,e2];rfl)).trans hg,rest⟩
 refine⟨g,?_,h.i,h.form.imp id λ⟨g,c,e,a3,hp⟩=>⟨g,c,e,bN a3 hs,hp⟩⟩;rcases h.form with ⟨rfl,rfl⟩|⟨g,c,rfl,a3,hp⟩;exact⟨wH,0,rfl,.inl rfl⟩;have⟨a,k,e1,h3⟩:=h.is;refine⟨a,k,e1,h3.imp id ?_⟩;rintro⟨b,o,e2,h4⟩;refine⟨b,o,e2,λj hj=>?_⟩;rw[e2]at e1;simp only[vI,oI,aI]at e1;rw[<-e1.1.1]at h4 ⊢;exact(bF (h1 g a3 hp)).trans (h4 j hj)
structure Ch where
 sh:LI
 hd:LI
 iQ:LI->LI->Option Int
def zF:Ch:=⟨[],[],λ_ _=>wH⟩
structure ChA(w:oX)(s1 s2:oV)(be:Nat)(c:Ch):Prop where
 sh:IS w s1 c.sh
 hd:PtI w s2 c.hd
 en:∃B es D,En w B be c.iQ es D
 ls:E c.sh<=1000/\E c.hd<=1000
 i1:∀y∈c.sh,0<=y/\y<6
 i2:∀y∈c.hd,0<=y/\y<6
def MsS(r:Nat)(w0 W:oX)(lo:Nat)(v:oV)(cs:List Ch):Prop:=∃a cap,v=Z a (E cs) cap/\(E cs=0∨∃b o,a=Q (az b o)/\lo<=b/\∀j,j<E cs->∃a1 n1 k1 a2 n2 k2 be,eQ W (az b (o+j*4))=Q (rgV r)/\eQ W (az b (o+j*4+1))=Q (Z a1 n1 k1)/\eQ W (az b (o+j*4+2))=Q (Z a2 n2 k2)/\eQ W (az b (o+j*4+3))=Q (.map (Q be))/\ChA w0 (Z a1 n1 k1) (Z a2 n2 k2) be (U cs j zF))
def MsS.keep{r:Nat}{w0 W W':oX}{lo:Nat}{v:oV}{cs:List Ch}(h:MsS r w0 W lo v cs)(hk:∀k,lo<=k->k<J W.1->W'.1[k]?=W.1[k]?):MsS r w0 W' lo v cs:=by
 obtain⟨a,cap,rfl,h⟩:=h;refine⟨a,cap,rfl,?_⟩;rcases h with h|⟨b,o,rfl,hb,h⟩;exact .inl h;refine .inr ⟨b,o,rfl,hb,λj hj=>?_⟩;have⟨a1,n1,k1,a2,n2,k2,be,h1,h2,h3,h4,h5⟩:=h j hj;have c:∀{p:Nat} {u:oV},aC W b p u->aC W' b p u:=λ{p u} hu=>(bF (hk b hb (bL W _ h1))).trans hu;exact⟨a1,n1,k1,a2,n2,k2,be,c h1,c h2,c h3,c h4,h5⟩
section
variable {sS:Nat->Prop} {w W W':oX}
def Kg.set(h:Kg sS w W){p:Addr}(hp:sS p.block)(u:oV):Kg sS w (W.setCell p u):=⟨h.os,h.tape,h.output,by rw[size_setCell];exact h.size,λk h1 h2=>(eG (λe=>h2 (by rw[e];exact hp))).trans (h.block k h1 h2)⟩
def Kg.zz{N:Nat}{w0:oX}(h:Kg sS w W)(h0:Below N w0 w)(hN:N<=J w.1)(hS:∀k,sS k->N<=k):Below N w0 W:=⟨h.os.trans h0.os,h.tape.trans h0.tape,h.output.trans h0.output,bM h0.size h.size,λk hk=>(h.block k Oo (λh1=>O1 (hS k h1))).trans (h0.block k hk)⟩
end
def MgB(r:Nat)(W:oX)(pm be:Nat)(vsh v:oV):Prop:=W.1[pm]?=Q (eZ #[rgV r,vsh,v,.map (Q be)] 149 (0,0))
def MgB.cells{r:Nat}{W:oX}{pm be:Nat}{vsh v:oV}(h:MgB r W pm be vsh v):eQ W (az pm 0)=Q (rgV r)/\eQ W (az pm 1)=Q vsh/\eQ W (az pm 2)=Q v/\eQ W (az pm 3)=Q (.map (Q be))/\W.frozen? (az pm 2)=nF/\pm<J W.1:=
 ⟨by rw[eI h];rfl,by rw[eI h];rfl,by rw[eI h];rfl,by rw[eI h];rfl,by unfold World.frozen?;rw[h];simp,(dK.1 h).1⟩
def MgB.A{r:Nat}{W W':oX}{pm be:Nat}{vsh v:oV}(h:MgB r W pm be vsh v)(e:W'.1[pm]?=W.1[pm]?):MgB r W' pm be vsh v:=e.trans h
def MgB.set{r:Nat}{W:oX}{pm be:Nat}{vsh v:oV}(h:MgB r W pm be vsh v)(u:oV):MgB r (sW W (az pm 2) u) pm be vsh u:=by
 unfold MgB at h ⊢;rw[eN h];rfl
def xn{r:Nat}{W:oX}{base n pm be:Nat}{v vsh vh:oV}{xs:List oV}(ho:oW W base 3 1 v n xs)(hm:MgB r W pm be vsh vh):Q pm≠v.ownBlock:=by
 rcases ho.2 with ⟨rfl,-⟩|⟨g,cap,cur,rfl,-,hr,-⟩;intro e;cases e
 intro e;have e:pm=g:=eU e;subst e;unfold MgB at hm;rw[hr]at hm;simp only[oI,iL]at hm;exact absurd hm.2.1 Dd
structure Ga(r:Nat)(w0 w:oX)(sS:Nat->Prop)(lo hi pm be:Nat)(v0 v1 v2 vr vb vsh vo:oV)(b:LI)(rows:LL)(ws:LI)(ts:List TbV)(cs:List Ch)(sh ow:LI):Prop where
 O:Bl w0 w
 zone:J w0.1<=lo/\hi<=J w.1
 inS:∀k,sS k->lo<=k/\k<hi
 spm:sS pm
 sbe:sS be
 sho:∀g,vo.ownBlock=Q g->sS g
 tab:IT w0 v0 v1 v2 b rows ws
 ok:ql b rows ws
 wf:Wf rows
 rat:RgS w0 w hi vr ts
 nr:E ts<=1000
 tv:∀t∈ts,(∀y∈t.e,0<=y/\y<6)/\E t.e<=1000
 msg:MsS r w0 w hi vb cs
 few:E cs<=20
 shr:∀W,Kg sS w W->IS W vsh sh
 lsh:E sh<=1000/\∀y∈sh,0<=y/\y<6
section
variable {w0 w W:oX} {sS:Nat->Prop} {lo hi pm be:Nat} {v0 v1 v2 vr vb vsh vo:oV} {b:LI} {rows:LL} {ws:LI} {r:Nat} {ts:List TbV} {cs:List Ch} {sh ow:LI}
def Ga.b0(h:Ga r w0 w sS lo hi pm be v0 v1 v2 vr vb vsh vo b rows ws ts cs sh ow)(g:Kg sS w W):Bl w0 W:=g.zz h.O (by have:=h.zone;have:=h.O.size;omega) λk hk=>by have:=h.inS k hk;have:=h.zone;omega
def Ga.msgs(h:Ga r w0 w sS lo hi pm be v0 v1 v2 vr vb vsh vo b rows ws ts cs sh ow)(g:Kg sS w W):MsS r w0 W hi vb cs:=h.msg.keep λk h1 h2=>g.block k h2 λh3=>O1 (h.inS k h3)
def Ga.rats(h:Ga r w0 w sS lo hi pm be v0 v1 v2 vr vb vsh vo b rows ws ts cs sh ow)(g:Kg sS w W):RgS w0 W hi vr ts:=h.rat.keep λk h1 h2=>g.block k h2 λh3=>O1 (h.inS k h3)
end
def qDX{r:Nat}{W:oX}{pm be b:Nat}{vsh v:oV}{R:oV->Option (DataW Unit×List MemPlace)}{ks:LL}{D:DataW Unit}(hm:MgB r W pm be vsh v)(h:Wm R W b ks D):b≠pm:=λe=>by
 obtain⟨x,y,h2,-⟩:=h.z;unfold MgB at hm;rw[e,hm]at h2;cases h2
def Xq{W:oX}{base n p:Nat}{t:TypeId}{v:oV}{xs:List oV}(ho:oW W base 3 1 v n xs)(ht:∃cur,W.1[p]?=Q (eZ cur t (0,0)))(a3:(3:TypeId)≠t):Q p≠v.ownBlock:=by
 rcases ho.2 with ⟨rfl,-⟩|⟨g,cap,cur,rfl,-,hr,-⟩;intro e;cases e
 intro e;have e:p=g:=eU e;subst e;have⟨c2,h2⟩:=ht;rw[hr]at h2;simp only[oI,iL]at h2;exact a3 h2.2.1
def YE{A X Y:oX}{m n:Nat}{k:LI}{x:Int}(h:mQ X m [] (.map []) λ_=>wH)(hb:Bl A X)(hm:J A.1<=m)(hk:Ok6 k)(ho:Y.ownsMap wD 140 Z2 m n (DataW.put (.map []) (kla k) (.lit (.int .i64 x))))(ht:X.mapTurned Y m):Bl A Y/\J A.1<=m/\mQ Y m [k] (DataW.put (.map []) (kla k) (.lit (.int .i64 x))) (X3 (λ_=>wH) k x):=
 ⟨hb.trans (((Kb.refl m X).turned ht).zz hb.size hm),hm,h.put hk ho⟩
def Kg.nomap{be B k:Nat}{es:List (LI×Nat)}{W W':oX}{iQ:LI->LI->Option Int}{D:DataW Unit}(g:Kg (Ent be es) W W')(h:En W B be iQ es D)(hk:k<J W.1)(hn:∀x y,W.1[k]?≠Q (.map x y)):W'.1[k]?=W.1[k]?:=g.block k hk (by
 rintro (rfl|hm);obtain⟨x,y,e,-⟩:=h.map.z;exact hn _ _ e;obtain⟨e,he,rfl⟩:=cC.1 hm;have⟨k3,D3,hw⟩:=h.inner e he;obtain⟨x,y,e1,-⟩:=hw.map.z;exact hn _ _ e1)
def jo{W:oX}{b o:Nat}{u:oV}(h:eQ W (az b o)=Q u):∀x y,W.1[b]?≠Q (.map x y):=λx y e=>by
 unfold World.cell? at h;rw[e]at h;simp at h
def Kg.ent{sS:Nat->Prop}{w W W':oX}{be:Nat}{es:List (LI×Nat)}(h:Kg sS w W)(g:Kg (Ent be es) W W')(hb:sS be)(hl:∀e∈es,J w.1<=e.2):Kg sS w W':=⟨g.os.trans h.os,g.tape.trans h.tape,g.output.trans h.output,bM h.size g.size,λk h1 h2=>(g.block k (bN h1 h.size) (by
 rintro (rfl|hm);exact h2 hb;obtain⟨e,he,rfl⟩:=cC.1 hm;have:=hl e he;omega)).trans (h.block k h1 h2)⟩
def HdS.keep{w W W':oX}{sS:Nat->Prop}{lo pm:Nat}{vo v:oV}{ow L:LI}(h:HdS w W sS lo pm vo v ow L)(hs:J W.1<=J W'.1)(h1:∀k,k<J W.1->(∀x y,W.1[k]?≠Q (.map x y))->W'.1[k]?=W.1[k]?):HdS w W' sS lo pm vo v ow L:=by
 refine⟨⟨h.z.1,?_⟩,?_,h.i,h.form.imp id λ⟨g,c,e,hlt,hp⟩=>⟨g,c,e,bN hlt hs,hp⟩⟩
 ·rcases h.z.2 with h3|⟨g,cap,cur,e,hb,hg,rest⟩;exact .inl h3;exact .inr ⟨g,cap,cur,e,hb,(h1 g (dK.1 hg).1 λx y e2=>by rw[hg]at e2;cases e2).trans hg,rest⟩
 have⟨a,k,e1,h3⟩:=h.is;refine⟨a,k,e1,h3.imp id ?_⟩;rintro⟨b,o,e2,h4⟩;exact⟨b,o,e2,λj hj=>(bF (h1 b (bL W _ (h4 j hj)) (jo (h4 j hj)))).trans (h4 j hj)⟩
def hds(cs:List Ch)(j:Nat):LI:=(cs.take j).flatMap Ch.hd
def Qq{cs:List Ch}{j:Nat}(h:j<E cs):hds cs (j+1)=hds cs j++(U cs j zF).hd:=by
 unfold hds;rw[tA,gE h,dM,gdR h];simp
def bl(r:Nat)(b sh:LI)(rows:LL)(f:LI->LI->Option Int):Nat->LI->LI->Option Int
 |0=>λ_ _=>wH
 |n+1=>cg r (bl r b sh rows f n) (xM sh (xx b (U rows n []))) (f (xx b (U rows n [])))
structure Gs(r:Nat)(w W:oX)(sS:Nat->Prop)(lo pm be:Nat)(vsh vo v:oV)(ow L:LI)(iQ:LI->LI->Option Int)(es:List (LI×Nat))(D:DataW Unit):Prop where
 kg:Kg sS w W
 mb:MgB r W pm be vsh v
 hd:HdS w W sS lo pm vo v ow L
 en:En W (J w.1) be iQ es D
