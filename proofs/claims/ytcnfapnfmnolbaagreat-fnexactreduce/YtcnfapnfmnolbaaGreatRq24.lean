import Derived.Test.YtcnfapnfmnolbaaGreatRq23
set_option maxHeartbeats 40000000
set_option maxRecDepth 1000000
namespace Go.Proofs.YtcnfapnfmnolbaaGreat
open Go.RowKit
variable {k x:Int}{bag l:LI}{es:LL}
def rp(q:Rat):Int×Int:=(q.num,(q.den:Int))
def xc(es bs:LL)(ws:List (Int×Int))(i:Nat):Bool:=decide (ws.getD i (0,0)=rp (wdR es (bs.getD i [])))
def Qu(es bs:LL)(ws:List (Int×Int))(x:Int×Int):Bool:=
 decide (ws.length=bs.length)&&(List.range bs.length).all (xc es bs ws)&&decide (x=rp (qt (λi=>wdR es (bs.getD i [])) bs.length))
structure GoodBag(es:LL)(bag:LI):Prop where
 set:qV bag=true
 cov:x9 bag es=true
theorem Jv(h:qV l=true):l.Nodup:=by
 have key:∀j,j<l.length->∀i,i<j->l.getD i 0<l.getD j 0:=by
  intro j;induction j with
  |zero=>intro _ i hi;omega
  |succ j ih=>
   intro I i hi;have M:=(uA h I).2.2;rw[show j+1-1=j by omega]at M;by_cases e:i=j;subst e;omega;have:=ih Oo i Oo;omega
 unfold List.Nodup;rw[List.pairwise_iff_getElem];intro i j hi I K;have:=key j I i K;rw[gD,gD,gE I,gE hi]at this;simp only[Option.getD_some]at this;omega
theorem qAW(h:zX es=true):∀i,i<es.length->(es.getD i []).Nodup:=by
 intro i hi;unfold zX at h;rw[bV,aT]at h;refine Jv (h.2 _ ?_);rw[gD,gE hi];exact gM hi
theorem Vn(h:x9 bag es=true):∀r,r<bag.length->∃e,e<es.length/\bag.getD r 0∈es.getD e []:=by
 intro r K;unfold x9 at h;rw[aT]at h;have:=h _ (yf K);rw[List.any_eq_true]at this;obtain⟨e,M,O⟩:=this;obtain⟨j,I,U⟩:=gO M;exact⟨j,I,by rw[gD (l:=es),gE I,Option.getD_some,U];simpa using O⟩
theorem GoodBag.best(h:GoodBag es bag):∃x,zS bag.length es.length (inc (qQ bag es)) x/\Parts es.length x:=
 jR (by have:=kZ h.set;omega) (Vn h.cov)
theorem GoodBag.sm(h:GoodBag es bag)(I:zX es=true):Sm 36000 (wdR es bag):=by
 obtain⟨x,K,M⟩:=h.best;rw[<-Ju K M];exact M.sum (nR _) (vJ I)
theorem qG1{q:Rat}(h:Sm 36000 q):Sm 1000000 q:=⟨by have:=h.1;omega,by have:=h.2;omega⟩
theorem qB3(w:World)(vb I:Value)(bag:LI)(es:LL)(hb:IS w vb bag)(h:ISS w I es)(hl:qT es)(V:zX es=true)(K:GoodBag es bag):
 Cl 100 #[vb,I] w λe w'=>∃M O,e=.returned (.agg #[.bool true,ai (wdR es bag).num,ai (wdR es bag).den,M,O])/\Bl w w':=by
 have:=kZ K.set;refine(qAP w vb I bag es hb h Oo hl K.set V K.cov).mono ?_;rintro e w' ⟨x,y,M,O,rfl,hx,-,px,-,-,-,-,U⟩;rw[Ju hx px];exact⟨M,O,rfl,U⟩
theorem qGj{w:World}{v:Value}{ws:List (Int×Int)}{n:Nat}{f:Nat->Rat}(h:IR w v ws)(K:ws.length=n)(M:∀i,i<n->ws.getD i (0,0)=rp (f i)):IR w v (prs n f):=by
 have e:ws=prs n f:=by
  apply List.ext_getElem;rw[qc,K];intro i O U;have:=M i Oo;rw[gD,gE O,Option.getD_some]at this;rw[this];have I:=ya (x:=f) (show i<n by omega);rw[gD,gE U,Option.getD_some]at I;rw[I];rfl
 rw[<-e];exact h
theorem Tryz.fieldC1(b c d e f:Value)(w:World):Sem.run Tryz.prog (Instr.field 131 (.agg #[b,c,d,e,f]) 1) w=.ok (.agg #[c,d]) w:=Kl
theorem qGk{wr W:World}{B:Nat}{sl:Value}{b o:Nat}{y:Int}(c3:wr.cell? (az B 3)=some sl)(I:wr.cell? (az b o)=some (ai x))(K:wr.cell? (az b (o+1))=some (ai y))(hb:Bl wr W):
 W.cell? (az B 3)=some sl/\W.cell? (az b o)=some (ai x)/\W.cell? (az b (o+1))=some (ai y)/\Bl wr W:=
 ⟨qJ hb c3,qJ hb I,qJ hb K,hb⟩
theorem YE(w:World)(vb vp vh vw ve:Value)(n d:Int)(bs es:LL)(ws:List (Int×Int))(hb:ISS w vb bs)(hl:qT bs)(c7:bs.length<=12)(c8:IR w vw ws)
 (he:ISS w ve es) (hle:qT es) (c9:zX es=true) (hg:∀i,i<bs.length->GoodBag es (bs.getD i [])):
 Cl 71 #[.agg #[vb,vp,vh,vw,ai n,ai d],ve] w λe w'=>e=.returned (.bool (Qu es bs ws (n,d)))/\Bl w w':=by
 have U:Hh (Bl w (w.alloc (.cells #[vb,vp,vh,vw,ai n,ai d] 38))):=ay (aK);have c0:(w.alloc (.cells #[vb,vp,vh,vw,ai n,ai d] 38)).cell? (az w.1.size 0)=some vb:=by rw[bE _ _ _ _ rfl];rfl
 have c3:(w.alloc (.cells #[vb,vp,vh,vw,ai n,ai d] 38)).cell? (az w.1.size 3)=some vw:=by rw[bE _ _ _ _ rfl];rfl
 have c4:(w.alloc (.cells #[vb,vp,vh,vw,ai n,ai d] 38)).cell? (az w.1.size 4)=some (ai n):=by rw[bE _ _ _ _ rfl];rfl
 have c5:(w.alloc (.cells #[vb,vp,vh,vw,ai n,ai d] 38)).cell? (az w.1.size 5)=some (ai d):=by rw[bE _ _ _ _ rfl];rfl
 obtain⟨W,hW⟩:=Ex (w.alloc (.cells #[vb,vp,vh,vw,ai n,ai d] 38));rw[<-hW]at U c0 c3 c4 c5;have HE:=ay (he.below U.o);have a9:=ay (c8.below U.o);have b8:=ay (hb.below U.o);obtain⟨ae,d0,rfl,-⟩:=he;clear hb c8;have d3:=b8.o;have d4:=a9.o;obtain⟨a,cap,rfl,hc⟩:=d3;obtain⟨a4,I,rfl,d2⟩:=d4;obtain⟨res,a6⟩:=Ex (Qu es bs ws (n,d));rw[<-a6];have HR:=ay a6;have HC:=ay hc;have b0:=ay d2;have HL:=ay hl;have d5:=ay hle;have HG:=ay hg;clear hc d2 hl hle a6 hg;by_cases hq:ws.length=bs.length
 case neg=>
  have hf:res=false:=by rw[HR.o];unfold Qu;rw[decide_eq_false hq];simp
  subst hf;have i1:((ws.length:Int) != (bs.length:Int))=true:=Sy;clear HC b0 b8 a9 HR;generalize ws.length=n1 at *;generalize bs.length=n2 at *;go_enter Tryz.func71,Tryz.ntmps71;go_upto_region 1 with fail;rw[<-hW];clear hW;go_wp2_with fail;go_ret;exact⟨rfl,U.o⟩
 have HF:Hh (∀j,j<bs.length->xc es bs ws j=false->res=false):=ay λj hj e=>by
  rw[HR.o];unfold Qu;rw[qf hj e];simp
 have HT:Hh ((∀j,j<bs.length->xc es bs ws j=true)->res=decide ((n,d)=rp (qt (λi=>wdR es (bs.getD i [])) bs.length))):=ay λh1=>by
  rw[HR.o];unfold Qu;rw[decide_eq_true hq,qh h1];rfl
 have b1:Hh (∀wr,Bl W wr->(∀j,j<bs.length->xc es bs ws j=true)->Cl 101 #[.slice a4 ws.length I] wr λe w'=>e=.returned (.agg #[ai (qt (λi=>wdR es (bs.getD i [])) bs.length).num,ai (qt (λi=>wdR es (bs.getD i [])) bs.length).den])/\Bl wr w'):=ay λwr hb h1=>
  XP wr _ bs.length _ (qGj (a9.o.below hb) hq (λi hi=>of_decide_eq_true (h1 i hi))) Oo (λi hi=>qG1 ((HG.o i hi).sm c9))
 clear HR a9 b8;rw[hq]at b0 b1 c3 hW ⊢;obtain⟨m,hm⟩:=Ex bs.length;have d1:((m:Int) != (m:Int))=false:=Ss;rw[<-hm]at HF HT HC b0 b1 HG c7 c0 c3 hW ⊢;clear hm hq;generalize qt (λi=>wdR es (bs.getD i [])) m=MX at *;have d6:Hh (∀j,xc es bs ws j=decide (ws.getD j (0,0)=rp (wdR es (bs.getD j [])))):=ay λ_=>rfl;go_enter Tryz.func71,Tryz.ntmps71;go_upto_region 1 with fail;rw[<-hW];clear hW;go_wp2_with fail;go_loopw [17] (λt wr=>∃j:Nat,j<=m/\t=ai j/\Bl W wr/\Hh (∀i,i<j->xc es bs ws i=true)) (λt _=>m-(intOf t).toNat);exact⟨0,nZ _,rfl,bJ _ _,ay (λi hi=>Oo)⟩;obtain⟨j,hj,rfl,M,a7⟩:=hrel;by_cases b7:j<m
 ·have i1:(j:Int)<(m:Int):=Oo;rcases HC.o with h0|⟨b,o,rfl,a8⟩;omega;rcases b0.o with h0|⟨b2,o2,rfl,a5⟩;omega;obtain⟨u,e1,hu⟩:=a8 j b7;have k1:=qJ M e1;obtain⟨w1,w2⟩:=a5 j b7;have k2:=qJ M w1;have k3:=qJ M w2;have x3:=qJ M c3;have V:Hh (∀W',Bl wr W'->_):=ay λW' hb=>qGk x3 k2 k3 hb;have KW:Hh (∀W',Bl wr W'->Cl 100 #[u,.slice ae es.length d0] W' λe w'=>∃vW vD,e=.returned (.agg #[.bool true,ai (wdR es (bs.getD j [])).num,ai (wdR es (bs.getD j [])).den,vW,vD])/\Bl W' w'):=ay λW' hb=>
   qB3 W' _ _ _ es (hu.below (bt M hb)) (HE.o.below (bt M hb)) d5.o c9 (HG.o j b7)
  have b9:=d6.o j;obtain⟨a1,d7,rfl,-⟩:=hu;have fin:=HF.o j b7;have nxt:xc es bs ws j=true->Hh (∀i,i<j+1->xc es bs ws i=true):=λe i hi=>by
   by_cases e2:i=j;rw[e2];exact e;exact a7.o i Oo
  clear a8 a5 a7 e1 w1 w2;generalize (bs.getD j []).length=lj at *;generalize xc es bs ws j=y at *;generalize wdR es (bs.getD j [])=q at *;unfold rp at b9;generalize hp:ws.getD j (0,0)=p at *;obtain⟨p1,p2⟩:=p;clear hp;simp only at k2 k3 V;have HQ:=ay b9;clear b9;generalize q.num=qn at *;generalize (q.den:Int)=qd at *;have O:Hh (∀W',(W'.cell? (az w.1.size 3)=some (.slice (some (az b2 o2)) m I)/\W'.cell? (az b2 (o2+j*2))=some (ai p1)/\W'.cell? (az b2 (o2+j*2+1))=some (ai p2)/\Bl wr W')->Bl wr W'):=ay λW' h=>h.2.2.2;have KX:Hh (∀W',(W'.cell? (az w.1.size 3)=some (.slice (some (az b2 o2)) m I)/\W'.cell? (az b2 (o2+j*2))=some (ai p1)/\W'.cell? (az b2 (o2+j*2+1))=some (ai p2)/\Bl wr W')->_):=ay λW' h=>KW.o W' h.2.2.2;clear KW;have hq:=HQ.o;clear HQ;by_cases e1:p1=qn
  ·subst e1;by_cases e2:p2=qd
   ·subst e2;have hf:=nxt (by rw[hq];simp);clear fin nxt hq;have a3:=Tryz.fieldC1;go_wp2_with fail;go_region_held3 (λW'=>W'.cell? (az w.1.size 3)=some (.slice (some (az b2 o2)) m I)/\W'.cell? (az b2 (o2+j*2))=some (ai p1)/\W'.cell? (az b2 (o2+j*2+1))=some (ai p2)/\Bl wr W')
     (first|exact V.o _ (bJ _ _).drew|exact V.o _ (bt (bJ _ _).drew K)|(refine V.o _ (bt (O.o _ ?_) K);assumption))
     (first|(go_at_call 100;refine(KX.o _ ?_).mono ?_;assumption;rintro e w' ⟨vW,vD,rfl,K⟩))
    clear a3;go_wp2_with fail;go_roundw
    case rel=>
     refine⟨j+1,Oo,Gg,bt M (O.o _ ?_),hf⟩;assumption
    case measure=>simp[intOf];omega
   obtain rfl:=fin (by rw[hq];simp[e2]);have x1:(p2 == qd)=false:=by simpa using e2
   clear nxt hq;have a3:=Tryz.fieldC1;go_wp2_with fail;go_region_held3 (λW'=>W'.cell? (az w.1.size 3)=some (.slice (some (az b2 o2)) m I)/\W'.cell? (az b2 (o2+j*2))=some (ai p1)/\W'.cell? (az b2 (o2+j*2+1))=some (ai p2)/\Bl wr W')
    (first|exact V.o _ (bJ _ _).drew|exact V.o _ (bt (bJ _ _).drew K)|(refine V.o _ (bt (O.o _ ?_) K);assumption))
    (first|(go_at_call 100;refine(KX.o _ ?_).mono ?_;assumption;rintro e w' ⟨vW,vD,rfl,K⟩))
   clear a3;go_wp2_with fail;go_ret;refine⟨rfl,bt U.o (bt M (O.o _ ?_))⟩;assumption
  obtain rfl:=fin (by rw[hq];simp[e1]);have x1:(p1 == qn)=false:=by simpa using e1
  clear nxt hq;have a3:=Tryz.fieldC1;go_wp2_with fail;go_region_held3 (λW'=>W'.cell? (az w.1.size 3)=some (.slice (some (az b2 o2)) m I)/\W'.cell? (az b2 (o2+j*2))=some (ai p1)/\W'.cell? (az b2 (o2+j*2+1))=some (ai p2)/\Bl wr W')
   (first|exact V.o _ (bJ _ _).drew|exact V.o _ (bt (bJ _ _).drew K)|(refine V.o _ (bt (O.o _ ?_) K);assumption))
   (first|(go_at_call 100;refine(KX.o _ ?_).mono ?_;assumption;rintro e w' ⟨vW,vD,rfl,K⟩))
  clear a3;go_wp2_with fail;go_ret;refine⟨rfl,bt U.o (bt M (O.o _ ?_))⟩;assumption
 obtain rfl:j=m:=Oo;have i1:¬((j:Int)<(j:Int)):=Oo;have hr:=HT.o a7.o;have x3:=qJ M c3;have x4:=qJ M c4;have x5:=qJ M c5;have V:Hh (∀W',Bl wr W'->W'.cell? (az w.1.size 3)=some (.slice a4 j I)/\W'.cell? (az w.1.size 4)=some (ai n)/\W'.cell? (az w.1.size (4+1))=some (ai d)/\Bl wr W'):=ay λW' hb=>⟨qJ hb x3,qJ hb x4,qJ hb x5,hb⟩;have O:Hh (∀W',(W'.cell? (az w.1.size 3)=some (.slice a4 j I)/\W'.cell? (az w.1.size 4)=some (ai n)/\W'.cell? (az w.1.size (4+1))=some (ai d)/\Bl wr W')->Bl wr W'):=ay λW' h=>h.2.2.2;have KX:Hh (∀W',(W'.cell? (az w.1.size 3)=some (.slice a4 j I)/\W'.cell? (az w.1.size 4)=some (ai n)/\W'.cell? (az w.1.size (4+1))=some (ai d)/\Bl wr W')->_):=ay λW' h=>b1.o W' (bt M h.2.2.2) a7.o;clear b1 HT HF a7;unfold rp at hr;generalize MX.num=qn at *;generalize (MX.den:Int)=qd at *;by_cases e1:n=qn
 ·subst e1;by_cases e2:d=qd
  ·subst e2;obtain rfl:res=true:=by rw[hr];simp
   clear hr;go_wp2_with fail;go_region_held3 (λW'=>W'.cell? (az w.1.size 3)=some (.slice a4 j I)/\W'.cell? (az w.1.size 4)=some (ai n)/\W'.cell? (az w.1.size (4+1))=some (ai d)/\Bl wr W')
    (first|exact V.o _ (bJ _ _).drew|exact V.o _ (bt (bJ _ _).drew K)|(refine V.o _ (bt (O.o _ ?_) K);assumption))
    (first|(go_at_call 101;refine(KX.o _ ?_).mono ?_;assumption;rintro e w' ⟨rfl,K⟩))
   go_wp2_with fail;go_ret;refine⟨rfl,bt U.o (bt M (O.o _ ?_))⟩;assumption
  obtain rfl:res=false:=by rw[hr];simp[e2]
  have x1:(d == qd)=false:=by simpa using e2
  clear hr;go_wp2_with fail;go_region_held3 (λW'=>W'.cell? (az w.1.size 3)=some (.slice a4 j I)/\W'.cell? (az w.1.size 4)=some (ai n)/\W'.cell? (az w.1.size (4+1))=some (ai d)/\Bl wr W')
   (first|exact V.o _ (bJ _ _).drew|exact V.o _ (bt (bJ _ _).drew K)|(refine V.o _ (bt (O.o _ ?_) K);assumption))
   (first|(go_at_call 101;refine(KX.o _ ?_).mono ?_;assumption;rintro e w' ⟨rfl,K⟩))
  go_wp2_with fail;go_ret;refine⟨rfl,bt U.o (bt M (O.o _ ?_))⟩;assumption
 obtain rfl:res=false:=by rw[hr];simp[e1]
 have x1:(n == qn)=false:=by simpa using e1
 clear hr;go_wp2_with fail;go_region_held3 (λW'=>W'.cell? (az w.1.size 3)=some (.slice a4 j I)/\W'.cell? (az w.1.size 4)=some (ai n)/\W'.cell? (az w.1.size (4+1))=some (ai d)/\Bl wr W')
  (first|exact V.o _ (bJ _ _).drew|exact V.o _ (bt (bJ _ _).drew K)|(refine V.o _ (bt (O.o _ ?_) K);assumption))
  (first|(go_at_call 101;refine(KX.o _ ?_).mono ?_;assumption;rintro e w' ⟨rfl,K⟩))
 go_wp2_with fail;go_ret;refine⟨rfl,bt U.o (bt M (O.o _ ?_))⟩;assumption
def zM(k:Int)(es bs:LL)(ps hs:LI)(ws:List (Int×Int))(x:Int×Int):Bool:=
 zg k es&&yH k bs&&zw ps bs.length&&uG k bs ps&&yQ hs es bs&&Qu es bs ws x
theorem qEL(h:qV l=true):∀j,j<l.length->∀i,i<=j->l.getD i 0<=l.getD j 0:=by
 intro j;induction j with
 |zero=>intro _ i hi;rw[show i=0 by omega];exact Int.le_refl _
 |succ j ih=>
  intro I i hi;have K:=(uA h I).2.2;rw[show j+1-1=j by omega]at K;by_cases e:i=j+1;subst e;exact Int.le_refl _;have:=ih Oo i Oo;omega
theorem jA(h:qV l=true)(I:zf k l=true)(K:x∈l):0<=x/\x<k:=by
 obtain⟨i,hi,rfl⟩:=yV K;refine⟨(uA h hi).1,?_⟩;unfold zf at I;rw[Bool.or_eq_true,dE,dE]at I;have:=qEL h (l.length-1) Oo i Oo;omega
theorem Y5(I:zg k es=true)(K:qV bag=true)(M:zf k bag=true):GoodBag es bag:=by
 refine⟨K,?_⟩;unfold x9;rw[aT];intro x O;obtain⟨U,V⟩:=jA K M O;unfold zg at I;rw[bV,aT]at I;have:=I.2 x.toNat Sy;unfold zZ at this;rw[show((x.toNat:Nat):Int)=x by omega]at this;exact this
theorem yR(I:zg k es=true):0<=k/\k<=6/\zX es=true:=by
 unfold zg at I;rw[bV,bV,bV,bV,dE,dE]at I;exact⟨I.1.1.1.1,I.1.1.1.2,I.1.1.2⟩
theorem qC9{bs:LL}(I:zg k es=true)(hb:yH k bs=true):bs.length<=12/\∀i,i<bs.length->GoodBag es (bs.getD i []):=by
 unfold yH at hb;rw[bV,dE,aT]at hb;refine⟨hb.1,λi hi=>?_⟩;have:=hb.2 (bs.getD i []) (by rw[gD,gE hi];exact gM hi);unfold za at this;rw[bV,bV]at this;exact Y5 I this.1.2 this.2
theorem Qv(w:World)(vb vp U V ve:Value)(k n d:Int)(es bs:LL)(ps hs:LI)(ws:List (Int×Int))(he:ISS w ve es)(hle:qT es)(hb:ISS w vb bs)(hl:qT bs)
 (hp:IS w vp ps) (d1:ps.length<=1099511627776) (hh:IS w U hs) (a9:IR w V ws):
 Cl 49 #[ai k,ve,.agg #[vb,vp,U,V,ai n,ai d]] w λe w'=>e=.returned (.bool (zM k es bs ps hs ws (n,d)))/\Bl w w':=by
 have K:Hh (Bl w (w.alloc (.cells #[vb,vp,U,V,ai n,ai d] 38))):=ay (aK);have c0:(w.alloc (.cells #[vb,vp,U,V,ai n,ai d] 38)).cell? (az w.1.size 0)=some vb:=by rw[bE _ _ _ _ rfl];rfl
 have c1:(w.alloc (.cells #[vb,vp,U,V,ai n,ai d] 38)).cell? (az w.1.size 1)=some vp:=by rw[bE _ _ _ _ rfl];rfl
 have c2:(w.alloc (.cells #[vb,vp,U,V,ai n,ai d] 38)).cell? (az w.1.size 2)=some U:=by rw[bE _ _ _ _ rfl];rfl
 have c3:(w.alloc (.cells #[vb,vp,U,V,ai n,ai d] 38)).cell? (az w.1.size 3)=some V:=by rw[bE _ _ _ _ rfl];rfl
 have c4:(w.alloc (.cells #[vb,vp,U,V,ai n,ai d] 38)).cell? (az w.1.size 4)=some (ai n):=by rw[bE _ _ _ _ rfl];rfl
 have c5:(w.alloc (.cells #[vb,vp,U,V,ai n,ai d] 38)).cell? (az w.1.size 5)=some (ai d):=by rw[bE _ _ _ _ rfl];rfl
 obtain⟨W,hW⟩:=Ex (w.alloc (.cells #[vb,vp,U,V,ai n,ai d] 38));rw[<-hW]at K c0 c1 c2 c3 c4 c5;have HE:=ay (he.below K.o);have a4:=ay (hb.below K.o);have HP:=ay (hp.below K.o);have HH:=ay (hh.below K.o);have d2:=ay (a9.below K.o);have HL:=ay hl;have a8:=ay hle;obtain⟨ae,d7,rfl,-⟩:=he;obtain⟨ab,d8,rfl,-⟩:=hb;obtain⟨ap,b0,rfl,-⟩:=hp;obtain⟨ah,a5,rfl,-⟩:=hh;obtain⟨aw,b1,rfl,-⟩:=a9;obtain⟨res,a3⟩:=Ex (zM k es bs ps hs ws (n,d));rw[<-a3];have HR:Hh (res=_):=ay a3;clear hl hle a3;have K1:=ay (YD W _ k es HE.o a8.o);go_enter Tryz.func49,Tryz.ntmps49;go_upto_region 1 with fail;rw[<-hW];clear hW;go_wp2_with fail;refine K1.o.mono ?_;rintro e w1 ⟨rfl,b7⟩;have I:=ay b7;clear K1 b7;cases hpat:zg k es
 ·obtain rfl:res=false:=by rw[HR.o];unfold zM;rw[hpat];simp
  go_wp2_with fail;go_ret;exact⟨rfl,bt K.o I.o⟩
 obtain⟨d9,d3,d4⟩:=yR hpat;have K2:=ay (US w1 _ k bs (a4.o.below I.o) HL.o);have x0:=qJ I.o c0;have x1:=qJ I.o c1;have a6:=ay hpat;clear hpat;go_wp2_with fail;refine K2.o.mono ?_;rintro e w2 ⟨rfl,d5⟩;subst w2;clear K2;cases hbag:yH k bs
 ·obtain rfl:res=false:=by rw[HR.o];unfold zM;rw[hbag];simp
  go_wp2_with fail;go_ret;exact⟨rfl,bt K.o I.o⟩
 have hg:=qC9 a6.o hbag;have a7:=hg.1;have HG:=ay hg.2;have K3:=ay (XN w1 _ ps bs.length (HP.o.below I.o) d1);have b8:=ay hbag;clear hbag hg;go_wp2_with fail;refine K3.o.mono ?_;rintro e w2 ⟨rfl,d5⟩;subst w2;clear K3;cases hpar:zw ps bs.length
 ·obtain rfl:res=false:=by rw[HR.o];unfold zM;rw[hpar];simp
  go_wp2_with fail;go_ret;exact⟨rfl,bt K.o I.o⟩
 have b9:=qEJ hpar;have K4:=ay (UU w1 _ _ (.slice ah hs.length a5) (.slice aw ws.length b1) k n d bs ps d3 (a4.o.below I.o) HL.o a7 (HP.o.below I.o) b9);have x2:=qJ I.o c2;have x3:=qJ I.o c3;have x4:=qJ I.o c4;have x5:=qJ I.o c5;have c7:=ay hpar;clear hpar b9;go_wp2_with fail;refine K4.o.mono ?_;rintro e w2 ⟨rfl,c8⟩;have O:=ay (bt I.o c8);clear K4 c8 x0 x1 x2 x3 x4 x5;cases htog:uG k bs ps
 ·obtain rfl:res=false:=by rw[HR.o];unfold zM;rw[htog];simp
  go_wp2_with fail;go_ret;exact⟨rfl,bt K.o O.o⟩
 have K5:=ay (Yz w2 _ _ _ hs es bs (HH.o.below O.o) (HE.o.below O.o) a8.o (a4.o.below O.o) HL.o);have x0:=qJ O.o c0;have x2:=qJ O.o c2;have c9:=ay htog;clear htog;go_wp2_with fail;refine K5.o.mono ?_;rintro e w3 ⟨rfl,d0⟩;have M:=ay (bt O.o d0);clear K5 d0 x0 x2;cases hhom:yQ hs es bs
 ·obtain rfl:res=false:=by rw[HR.o];unfold zM;rw[hhom];simp
  go_wp2_with fail;go_ret;exact⟨rfl,bt K.o M.o⟩
 have hr:res=Qu es bs ws (n,d):=by rw[HR.o];unfold zM;rw[a6.o,b8.o,c7.o,c9.o,hhom];rfl
 have K6:=ay (YE w3 _ (.slice ap ps.length b0) (.slice ah hs.length a5) _ _ n d bs es ws (a4.o.below M.o) HL.o a7 (d2.o.below M.o) (HE.o.below M.o) a8.o d4 HG.o);rw[<-hr]at K6;have x0:=qJ M.o c0;have x1:=qJ M.o c1;have x2:=qJ M.o c2;have x3:=qJ M.o c3;have x4:=qJ M.o c4;have x5:=qJ M.o c5;clear hhom hr HR;go_wp2_with fail;refine K6.o.mono ?_;rintro e w4 ⟨rfl,d6⟩;go_wp2_with fail;go_ret;exact⟨rfl,bt K.o (bt M.o d6)⟩
theorem Yh(w:World)(vx vy:Value)(n:Nat)(most:Bool)(x y:Nat->Rat)(hn:n<=7)(hx:IR w vx (prs n x))(hy:IR w vy (prs n y))(px:Parts n x)(py:Parts n y):
 Cl 168 #[vx,vy,.bool most] w λe w'=>e=.returned (.bool (jF n most x y))/\Bl w w':=by
 have K:=px.sum (nR n) hn;have M:=py.sum (nR n) hn;have KX:Hh (∀W,Bl w W->Cl 141 #[vx] W λe w'=>e=.returned (.agg #[ai (Cov.sm n x).num,ai (Cov.sm n x).den])/\Bl W w'):=ay (λW hW=>QX W vx n x hn (hx.below hW) px);have KY:Hh (∀W,Bl w W->Cl 141 #[vy] W λe w'=>e=.returned (.agg #[ai (Cov.sm n y).num,ai (Cov.sm n y).den])/\Bl W w'):=ay (λW hW=>QX W vy n y hn (hy.below hW) py);have K1:Hh (∀W,Cl 118 #[.agg #[ai (Cov.sm n x).num,ai (Cov.sm n x).den],.agg #[ai (Cov.sm n y).num,ai (Cov.sm n y).den]] W λe w'=>e=.returned (.bool (decide (Cov.sm n x<Cov.sm n y)))/\Bl W w'):=ay (λW=>jV _ _ W K M Dd);have K2:Hh (∀W,Cl 118 #[.agg #[ai (Cov.sm n y).num,ai (Cov.sm n y).den],.agg #[ai (Cov.sm n x).num,ai (Cov.sm n x).den]] W λe w'=>e=.returned (.bool (decide (Cov.sm n y<Cov.sm n x)))/\Bl W w'):=ay (λW=>jV _ _ W M K Dd);have HR:Hh (jF n most x y=if decide (Cov.sm n x<Cov.sm n y)=true then !most else if decide (Cov.sm n y<Cov.sm n x)=true then most else jE x y n 0):=ay (by unfold jF;simp only[decide_eq_true_eq]);generalize decide (Cov.sm n x<Cov.sm n y)=b1 at *;generalize decide (Cov.sm n y<Cov.sm n x)=b2 at *;generalize jF n most x y=R at *;generalize (Cov.sm n x).num=p1 at *;generalize (Cov.sm n x).den=p2 at *;generalize (Cov.sm n y).num=q1 at *;generalize (Cov.sm n y).den=q2 at *;clear K M;obtain⟨a,cap,rfl,b0⟩:=hx;obtain⟨a2,f9,rfl,b7⟩:=hy;rw[qc]at b0 b7;have d5:=ay b0;have d6:=ay b7;have d7:=ay px;have d8:=ay py;clear b0 b7 px py;simp only[qc]at *;go_enter Tryz.func168,Tryz.ntmps168;go_upto_region 2 with (first|(go_at_call 141;refine(KX.o _ (bJ _ _)).mono ?_;rintro e w1 ⟨rfl,b8⟩));have hT:=uU w1 p1 p2 36;have hB:Bl w (w1.alloc (.cells #[ai p1,ai p2] 36)):=b8.alloc b8.size _;have c8:w1.1.size<(w1.alloc (.cells #[ai p1,ai p2] 36)).1.size:=Ss;generalize w1.alloc (.cells #[ai p1,ai p2] 36)=W1 at *;generalize w1.1.size=g1 at *;clear b8 KX;go_upto_region 3 with (first|(go_at_call 141;refine(KY.o _ hB).mono ?_;rintro e w2 ⟨rfl,V⟩));have c9:=(hT.below c8 V);have d9:g1<w2.1.size:=bN c8 V.size;have d0:=uU w2 q1 q2 36;have d1:Two (w2.alloc (.cells #[ai q1,ai q2] 36)) g1 p1 p2:=c9.below d9 (aK);have d2:Bl w (w2.alloc (.cells #[ai q1,ai q2] 36)):=(bt hB V).alloc (bt hB V).size _;have e0:w2.1.size<(w2.alloc (.cells #[ai q1,ai q2] 36)).1.size:=Ss;generalize w2.alloc (.cells #[ai q1,ai q2] 36)=W2 at *;generalize w2.1.size=g2 at *;have e5:g1<W2.1.size:=Oo;clear hT c9 V hB KY;have HB:=ay d2;have d3:=ay d1;have d4:=ay d0;clear d2;obtain⟨s1,s2,-,-⟩:=d1;obtain⟨u1,u2,-,-⟩:=d0;cases b1
 case true=>
  go_wp2_with (first|(go_at_call 118;refine(K1.o _).mono ?_;rintro e w3 ⟨rfl,U⟩));go_ret;exact⟨qK (by rw[HR.o];rfl),bt HB.o U⟩
 case false=>
  go_upto_region 5 with (first|(go_at_call 118;refine(K1.o _).mono ?_;rintro e w3 ⟨rfl,U⟩));obtain⟨e6,e7,-,-⟩:=d3.o.below e5 U;obtain⟨e8,e9,-,-⟩:=d4.o.below e0 U;have b9:=ay (bt HB.o U);clear s1 s2 u1 u2 U HB d3 d4 K1;cases b2
  case true=>
   go_wp2_with (first|(go_at_call 118;refine(K2.o _).mono ?_;rintro e w4 ⟨rfl,a5⟩));go_ret;exact⟨qK (by rw[HR.o];rfl),bt b9.o a5⟩
  case false=>
   go_upto_region 7 with (first|(go_at_call 118;refine(K2.o _).mono ?_;rintro e w4 ⟨rfl,a5⟩));have f7:=ay (bt b9.o a5);have f8:Hh (R=jE x y n 0):=ay (by rw[HR.o];rfl);clear b9 a5 HR K2 e6 e7 e8 e9;go_wp2;go_loopw [25] (λt wr=>∃k:Nat,k<=n/\t=ai k/\Hh (Bl w wr/\R=jE x y (n-k) k)) (λt _=>n-(intOf t).toNat);exact⟨0,nZ _,rfl,ay ⟨f7.o,f8.o⟩⟩;obtain⟨k,hk,rfl,hH⟩:=hrel;by_cases a3:k<n
   ·have i1:(k:Int)<(n:Int):=Oo;have a6:Hh (R=if x k<y k then true else if y k<x k then false else jE x y (n-(k+1)) (k+1)):=ay (by
     rw[hH.o.2,show n-k=(n-(k+1))+1 by omega];rfl)
    have a7:=ay hH.o.1;have K:=d7.o.sm a3;have M:=d8.o.sm a3;rcases d5.o with h0|⟨b,o,rfl,a4⟩;omega;rcases d6.o with h0|⟨b',o',rfl,O⟩;omega;obtain⟨e1,e2⟩:=a4 k a3;obtain⟨e3,e4⟩:=O k a3;rw[ya a3]at e1 e2 e3 e4;have HC:Hh (∀W,Bl w W->W.cell? (az b (o+k*2))=some (ai (x k).num)/\W.cell? (az b (o+k*2+1))=some (ai (x k).den)/\W.cell? (az b' (o'+k*2))=some (ai (y k).num)/\W.cell? (az b' (o'+k*2+1))=some (ai (y k).den)):=ay (λW hW=>⟨(hW.cell (p:=(az b (o+k*2))) (bL w _ e1)).trans e1,(hW.cell (p:=(az b (o+k*2+1))) (bL w _ e2)).trans e2,(hW.cell (p:=(az b' (o'+k*2))) (bL w _ e3)).trans e3,(hW.cell (p:=(az b' (o'+k*2+1))) (bL w _ e4)).trans e4⟩);have KA:Hh (∀W,Cl 118 #[.agg #[ai (x k).num,ai (x k).den],.agg #[ai (y k).num,ai (y k).den]] W λe w'=>e=.returned (.bool (decide (x k<y k)))/\Bl W w'):=ay (λW=>jV _ _ W K M Dd);have KB:Hh (∀W,Cl 118 #[.agg #[ai (y k).num,ai (y k).den],.agg #[ai (x k).num,ai (x k).den]] W λe w'=>e=.returned (.bool (decide (y k<x k)))/\Bl W w'):=ay (λW=>jV _ _ W M K Dd);rw[show(if x k<y k then true else if y k<x k then false else jE x y (n-(k+1)) (k+1))=(if decide (x k<y k)=true then true else if decide (y k<x k)=true then false else jE x y (n-(k+1)) (k+1))by simp only[decide_eq_true_eq]]at a6;generalize decide (x k<y k)=b3 at *;generalize decide (y k<x k)=b4 at *;generalize (x k).num=x1 at *;generalize (x k).den=x2 at *;generalize (y k).num=y1 at *;generalize (y k).den=y2 at *;obtain⟨c1,c2,c3,c4⟩:=HC.o wr a7.o;clear a4 O e1 e2 e3 e4 hH K M;cases b3
    case true=>
     go_wp2_with fail;go_region_law (first|(go_simp;go_at_call 118;refine(KA.o _).mono ?_;rintro e w5 ⟨rfl,I⟩;have a8:=qa I))
     all_goals
      go_wp2
      go_ret
      exact⟨qK (by rw[a6.o];rfl),bt a7.o a8⟩
    case false=>
     go_wp2_with fail;go_region_law (first|(go_simp;go_at_call 118;refine(KA.o _).mono ?_;rintro e w5 ⟨rfl,I⟩;have a8:=qa I))
     all_goals
      have c7:=ay (bt a7.o a8)
      obtain⟨f1,f2,f3,f4⟩:=HC.o w5 c7.o
      clear c1 c2 c3 c4 I a8 a7
      cases b4
      case true=>
       go_wp2_with fail
       go_region_law (first|(go_simp;go_at_call 118;refine(KB.o _).mono ?_;rintro e w6 ⟨rfl,I⟩;have a9:=qa I))
       all_goals
        go_wp2
        go_ret
        exact⟨qK (by rw[a6.o];rfl),bt c7.o a9⟩
      case false=>
       go_wp2_with fail
       go_region_law (first|(go_simp;go_at_call 118;refine(KB.o _).mono ?_;rintro e w6 ⟨rfl,I⟩;have a9:=qa I))
       all_goals
        have HF:Hh (Bl w w6/\R=jE x y (n-(k+1)) (k+1)):=ay ⟨bt c7.o a9,by rw[a6.o];rfl⟩
        clear I a9
        go_wp2
        go_roundw;exact⟨k+1,Oo,Gg,HF⟩;exact Im
   obtain rfl:k=n:=Oo;have i1:¬((k:Int)<(k:Int)):=Oo;have HX:=hH;clear hH;go_wp2;go_ret;refine⟨qK ?_,HX.o.1⟩;rw[HX.o.2,Nat.sub_self];rfl
end Go.Proofs.YtcnfapnfmnolbaaGreat
