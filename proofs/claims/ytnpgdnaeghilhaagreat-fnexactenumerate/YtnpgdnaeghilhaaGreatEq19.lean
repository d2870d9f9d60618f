import Derived.Test.YtnpgdnaeghilhaaGreatEq17
set_option maxHeartbeats 40000000
set_option maxRecDepth 1000000
namespace Go.Proofs.YtnpgdnaeghilhaaGreat
open Go.Proofs.Tryz Go.RowKit Go.Maps
section
variable {L l ow s:LI}{ks:LL}{xs news:LV}{b base be c lo n pm g m:Nat}{t ty e:TypeId}{v vo vsh va vh vt vr K z v':Value}{W W' w w' w0 V M:World}{D:DataW Unit}{es:List (Value×Nat)}{P:Program}{S:Nat->Prop}
theorem Tryz.infoRt:(Tryz.prog.info? 198).map (λi=>(i.zero,i.size,i.bytes))=some (some (.agg #[sn,.map none]),2,32):=Kl
theorem QM{s R}(ho:W.ownsRow base t s v n xs)(K:Wm R W b ks D):some b≠v.ownBlock:=by
 rcases ho.2 with ⟨rfl,-⟩|⟨g,cap,cur,rfl,-,M,-⟩;intro e;cases e
 intro e;have e:b=g:=Option.some.inj e;subst e;obtain⟨es,clock,I,-⟩:=K.own;rw[M]at I;cases I
def RtV(w:World)(va:Value):Prop:=∃l,IS w va l/\l.length<=1000/\∀y∈l,0<=y/\y<6
def rcl(e:Value×Nat):LV:=[e.1,.map (some e.2)]
structure RtM(w0 w W:World)(v:Value)(es:List (Value×Nat)):Prop where
 own:W.ownsRow w.1.size 198 2 v es.length (es.flatMap rcl)
 vars:∀e∈es,RtV w0 e.1
 maps:∀e∈es,w.1.size<=e.2/\∃ks D,Wm qP W e.2 ks D
 bel:Bl w W
theorem RtM.push{o}(h:RtM w0 w W v es)(h1:Bl W V)(hW:Wm qP V b ks D)(a3:w.1.size<=b)(a4:RtV w0 va)(O:M.ownsRow w.1.size 198 2 (sZ g 0 (es.length+1) c) (es.length+1) (es.flatMap rcl++[va,.map (some b)]))(K:(V.alloc o).grownBy M v.ownBlock)(a5:Bl w M):RtM w0 w M (sZ g 0 (es.length+1) c) (es++[(va,b)]):=by
 have far:∀{x:Nat} {ks:LL} {D:DataW Unit},Wm qP V x ks D->Wm qP M x ks D:=λ{x ks D} hx=>by
  have h2:=hx.bel (eB.alloc eA o);exact h2.move (K.block x h2.lt (QM (qB h.own h1) hx))
 refine⟨by rw[lA,lS,dM];exact O,λe I=>?_,λe I=>?_,a5⟩
 .rcases cF.1 I with I|I;exact h.vars e I;rw[cI.1 I];exact a4
 rcases cF.1 I with I|I;have⟨h0,ks,D,h2⟩:=h.maps e I;exact⟨h0,ks,D,far (h2.bel h1)⟩;rw[cI.1 I];exact⟨a3,ks,D,far hW⟩
def RgS(w0 W:World)(lo:Nat)(v:Value)(n:Nat):Prop:=∃a cap,v=.slice a n cap/\(n=0\/∃b o,a=some (az b o)/\lo<=b/\∀j,j<n->∃aa na ca m,W.cell? (az b (o+j*2))=some (.slice aa na ca)/\W.cell? (az b (o+j*2+1))=some (.map (some m))/\RtV w0 (.slice aa na ca)/\lo<=m/\∃ks D,Wm qP W m ks D)
theorem RgS.keep(h:RgS w0 W lo v n)(I:∀k,lo<=k->k<W.1.size->W'.1[k]?=W.1[k]?):RgS w0 W' lo v n:=by
 obtain⟨a,cap,rfl,h⟩:=h;refine⟨a,cap,rfl,?_⟩;rcases h with h|⟨b,o,rfl,hb,h⟩;exact Or.inl h;refine Or.inr ⟨b,o,rfl,hb,λj V=>?_⟩;have⟨aa,na,ca,m,K,h2,h3,M,ks,D,O⟩:=h j V;have e:=I b hb (bL W _ K);exact⟨aa,na,ca,m,(bF e).trans K,(bF e).trans h2,h3,M,ks,D,O.move (I m M O.lt)⟩
theorem qAN:∀{es:List (Value×Nat)} {i:Nat},i<es.length->(es.flatMap rcl)[i*2]?=some (es.getD i (undef,0)).1/\(es.flatMap rcl)[i*2+1]?=some (.map (some (es.getD i (undef,0)).2))
 |e::es,0,_=>⟨rfl,rfl⟩
 |e::es,i+1,h=>by
  have⟨I,K⟩:=qAN (es:=es) (i:=i) (by simpa using h);rw[show(i+1)*2=i*2+1+1 by omega];exact⟨I,K⟩
theorem RtM.is(h:RtM w0 w W v es):RgS w0 W w.1.size v es.length:=by
 rcases h.own.2 with ⟨rfl,I⟩|⟨g,cap,cur,rfl,hb',M,I,-,-,O⟩;exact⟨none,0,by rw[I],Or.inl I⟩;refine⟨_,cap,rfl,Or.inr ⟨g,0,rfl,hb',λj V=>?_⟩⟩;have⟨f1,f2⟩:=qAN V;have hm:=qz (d:=(undef,0)) V;have⟨l,hl,K⟩:=h.vars _ hm;obtain⟨aa,ca,ea,-⟩:=id hl;rw[cU];refine⟨aa,_,ca,(es.getD j _).2,?_,?_,⟨l,by rw[<-ea];exact hl,K⟩,h.maps _ hm⟩;rw[eI M,<-ea,<-f1,<-O,cL Oo,dY];rw[eI M,<-f2,<-O,cL Oo,dY]
theorem qAO w0 w{p0 p1:OA}{n0 n1 c0 c1}hl tl{i}(d5:Bl w0 w)(hh:IS w vh hl)(ht:ITs w0 vt tl)(hlen:hl.length=tl.length)(hn:tl.length<=1000)(a9:∀t∈tl,qW t=true)(b7:∀t∈tl,Wf t.rows):
 Cl 95 #[.agg #[.slice p0 n0 c0,.slice p1 n1 c1,vh],ai i,vt] w λe w'=>∃v,e=.returned v/\(∃n,n<=1000/\RgS w0 w' w.1.size v n)/\Bl w w':=by
 obtain⟨iR,hi,d6,d7,d8⟩:=info_parts Tryz.infoRt;obtain⟨ah,kh,rfl,a3⟩:=hh;obtain⟨at_,kt,rfl,a6⟩:=ht;rw[hlen]at a3 |-;obtain⟨n,b8⟩:=Ex tl.length;rw[<-b8]at a3 a6 hn |-;obtain⟨W1,a4⟩:=Ex (w.alloc (.cells #[.slice p0 n0 c0,.slice p1 n1 c1,.slice ah n kh] 93))
 have c7:ArrAt W1 w.1.size 3 (f3 (.slice p0 n0 c0) (.slice p1 n1 c1) (.slice ah n kh)):=by rw[a4];exact qj w 3 (f3 _ _ _) _
 have c8:Hh (RtM w0 w W1 sn []):=ay ⟨oN _ _ _ _,λe he=>(by cases he),λe he=>(by cases he),by rw[a4];exact(bJ _ _).alloc (nR _) _⟩;have HH:=ay a3;have HT:=ay a6;have HK:Hh (∀j,j<n->qW (tl.getD j qA)=true/\Wf (tl.getD j qA).rows):=ay λj hj=>by
  have:=qz (l:=tl) (d:=qA) (i:=j) Oo;exact⟨a9 _ this,b7 _ this⟩
 obtain⟨t0,t1,t2⟩:=c7.three;clear a3 a6 a9 b7 c7 b8 hlen;go_enter func95,ntmps95;go_upto_region 1 with fail;rw[<-a4];clear a4;go_wp2;go_loopw [7,13] (λv t wr=>∃(j:Nat) (es:List (Value×Nat)),j<=n/\t=ai j/\es.length<=j/\Hh (RtM w0 w wr v es)) (λ_ t _=>n-(intOf t).toNat);exact⟨0,[],eC,rfl,eA,c8⟩;clear c8 t0 t1 t2;obtain⟨j,es,hj,rfl,e3,HX⟩:=hrel;by_cases a7:j<n
 .have i1:=aV a7;rcases HH.o with h0|⟨b1,o1,rfl,hc1⟩;omega;rcases HT.o with h0|⟨b2,o2,rfl,d9⟩;omega;have e1:=qF HX.o.bel (hc1 j a7);generalize hl.getD j 0=x at *;by_cases hx:x=i
  .subst hx;obtain⟨v0,v1,v2,d0,d1,d2,O⟩:=d9 j a7;have K:=bt d5 HX.o.bel;have g0:=qF K d0;have g1:=qF K d1;have g2:=qF K d2;obtain⟨a5,c9⟩:=HK j a7;have KR:=ay (UA (O.below K) a5 c9);have HV:Hh (RtV w0 v0):=ay ⟨_,O.vs,(V7 (qL a5).1).2,(V7 (qL a5).1).1⟩;have hsz:=HX.o.bel.size;obtain⟨y0,z0,rfl,-⟩:=O.vs;obtain⟨y1,z1,rfl,-⟩:=O.rows;obtain⟨y2,z2,rfl,-⟩:=O.ws;clear O d0 d1 d2 a5 c9 K;go_wp2_with (first
    |(go_at_call 138;apply KR.o.mono;rintro e w2 ⟨b,rfl,e4,⟨e5,D2,d3⟩,M⟩;have a8:=qB HX.o.own M;have hs2:=M.size)
    |(at_builtin;refine wpList_append_lies _ rfl _ _ 148 rfl w.1.size 198 iR (.agg #[sn,.map none]) 2 32 underlying148 hi d6 d7 d8 rfl Dd u7 es.length (es.flatMap rcl) rfl (a8.alloc _) (az _ 0) 1 1 [.slice y0 _ z0,.map (some b)] rfl rfl (VY) (λu hu=>by simp at hu;rcases hu with rfl|rfl <;> rfl) Dd Um Oo Sy _ rfl ?_;intro g3 c3 w4 V I e0 e2)
    |fail)
   have HE:=ay (HX.o.push M d3 Oo HV V I (((bt HX.o.bel M).alloc Oo _).grown I Sy (λk hk=>(a8.lt k hk).1)));clear V I a8 d3 KR g0 g1 g2 HX;go_roundw;exact⟨j+1,es++[_],Oo,Gg,by rw[lA,lS];omega,HE⟩;exact Im
  have q1:(x == i)=false:=by simpa using hx
  go_wp2;go_roundw;exact⟨j+1,es,Oo,Gg,Oo,HX⟩;exact Im
 obtain rfl:j=n:=Oo;have i1:=aY j;go_wp2;go_ret;exact⟨_,rfl,⟨es.length,Oo,HX.o.is⟩,HX.o.bel⟩
def xM(l x:LI):LI:=(List.range 6).map (xS l λi=>x.getD i 0)
theorem qHf l x:asL (xM l x)=asV (xS l λi=>x.getD i 0):=rfl
theorem uq{x}(I:Ok6 x):Ok6 (xM l x):=by
 refine⟨by unfold xM;simp,λz K=>?_⟩;obtain⟨i,-,rfl⟩:=cC.1 K;unfold xS xR;split;exact I.at i;show(-9223372036854775808:Int)<=0/\(0:Int)<=9223372036854775807;decide
theorem qDb w{a}(hm:w.cell? (az pm 0)=some rgV)(ha:Ok6 a)(d7:Bl w0 w)(hr:RgS w0 w lo vr n)(hn:n<=1000):
 Cl 134 #[.pointer (some (az pm 0)),asL a,vr] w λe w'=>(∃z,e=.returned (ai z))/\Bl w w':=by
 have e3:Tryz.prog.follows .mixedOrders=true:=Kl;have V:Hh (∀l,keyOf Tryz.prog 137 (asL (xM l a))=some (kla (xM l a))):=ay λl=>yP (uq ha);have V:Hh (∀l,keyOf Tryz.prog 137 (asV (xS l λi=>a.getD i 0))=some (kla (xM l a))):=V;unfold asL;have⟨f,hf⟩:=Ex (λi=>a.getD i 0);rw[<-hf]at V |-;clear hf;obtain⟨ar,kr,rfl,a9⟩:=hr;obtain⟨W1,a3⟩:=Ex (w.alloc (.cells #[ai (f 0),ai (f 1),ai (f 2),ai (f 3),ai (f 4),ai (f 5)] 137));have a5:Bl w W1:=by rw[a3];exact(bJ _ _).alloc (nR _) _
 have a6:Hh (Bl w W1/\ArrAt W1 w.1.size 6 λi=>ai (f i)):=ay ⟨a5,by rw[a3];exact six f _⟩;have e4:pm<w.1.size:=bL w _ hm;have HM:Hh (w.cell? (az pm 0)=some (.iface 68 (.agg #[]))):=ay hm;have c0:=qF a5 HM;have HC:=ay a9;have e5:=Tryz.oneM;clear a5 hm a9;unfold asV;go_enter func134,ntmps134;go_upto_region 1 with fail;rw[<-a3];clear a3;go_wp2_with (first
  |(go_at_call 270;apply (qDZ).mono;rintro e w2 ⟨rfl,a7⟩)
  |fail)
 have b8:Hh (Bl w w2/\ArrAt w2 w.1.size 6 λi=>ai (f i)):=ay ⟨bt a6.1 a7,a6.2.below Oo a7⟩;clear a6 a7 c0;go_loopw [7,17] (λx t wr=>∃(j:Nat) (z:Int),j<=n/\t=ai j/\x=ai z/\Hh (Bl w wr/\ArrAt wr w.1.size 6 λi=>ai (f i))) (λ_ t _=>n-(intOf t).toNat);exact⟨0,1,eC,rfl,rfl,b8⟩;clear b8;obtain⟨j,z,hj,rfl,rfl,HX⟩:=hrel;obtain⟨x0,x1⟩:=HX.o;by_cases d9:j<n
 .have i1:=aV d9;rcases HC.o with h0|⟨b1,o1,rfl,-,hc1⟩;omega;obtain⟨aa,na,ca,m,d0,d1,⟨l,b9,e0,e1⟩,-,ks,D,c7⟩:=hc1 j d9;have g0:=qF x0 d0;have g1:=qF x0 d1;go_upto_region 5 with fail;have a8:Bl wr (wr.alloc (.cells #[.slice aa na ca,.map (some m)] 198)):=aK;have M:=qj wr 2 (f2 (.slice aa na ca) (.map (some m))) 198;have M:ArrAt (wr.alloc (.cells #[.slice aa na ca,.map (some m)] 198)) wr.1.size 2 (f2 (.slice aa na ca) (.map (some m))):=M;have K:=bt x0 a8;have I:=x1.below Oo a8;generalize (wr.alloc (.cells #[.slice aa na ca,.map (some m)] 198))=W2,wr.1.size=z1 at *;have KN:Hh (∀W,Bl W2 W->Cl 133 #[.agg #[ai (f 0),ai (f 1),ai (f 2),ai (f 3),ai (f 4),ai (f 5)],.slice aa na ca] W λe w'=>e=.returned (asV (xS l f))/\Bl W w'):=ay λW O=>jq W f l ((b9.below d7).below (bt K O)) e0 e1;have a4:=V l;have HS:Hh (∀W,Bl W2 W->aC W pm 0 (.iface 68 (.agg #[]))/\W.cell? (az z1 0)=some (.slice aa na ca)/\W.cell? (az z1 1)=some (.map (some m))/\W.cell? (az w.1.size 0)=some (ai (f 0))/\W.cell? (az w.1.size 1)=some (ai (f 1))/\W.cell? (az w.1.size 2)=some (ai (f 2))/\W.cell? (az w.1.size 3)=some (ai (f 3))/\W.cell? (az w.1.size 4)=some (ai (f 4))/\W.cell? (az w.1.size 5)=some (ai (f 5))):=ay λW O=>⟨(O.cell (by show pm<_;have:=K.size;omega)).trans (qF K HM),(M.below Oo O).cell 0 Oo,(M.below Oo O).cell 1 Oo,(I.below Oo O).cell 0 Oo,(I.below Oo O).cell 1 Oo,(I.below Oo O).cell 2 Oo,(I.below Oo O).cell 3 Oo,(I.below Oo O).cell 4 Oo,(I.below Oo O).cell 5 Oo⟩;have c8:=ay (c7.bel K);have c9:=ay K;have d2:=ay I;have b0:Bl W2 W2.drew:=eB.drew;have e6:=Tryz.timesM;have e7:=Tryz.worthM;clear x0 x1 HX M K I a8 b9 c7 g0 g1 d0 d1;go_region_held_law (λW=>W.cell? (az pm 0)=some (.iface 68 (.agg #[]))/\W.cell? (az z1 0)=some (.slice aa na ca)/\W.cell? (az z1 1)=some (.map (some m))/\W.cell? (az w.1.size 0)=some (ai (f 0))/\W.cell? (az w.1.size 1)=some (ai (f 1))/\W.cell? (az w.1.size 2)=some (ai (f 2))/\W.cell? (az w.1.size 3)=some (ai (f 3))/\W.cell? (az w.1.size 4)=some (ai (f 4))/\W.cell? (az w.1.size 5)=some (ai (f 5)))
   (first
    |with_reducible exact HS.o _ b0
    |with_reducible exact HS.o _ bW
    |with_reducible exact HS.o _ bX
    |with_reducible exact HS.o _ bY
    |fail)
   (first
    |(go_simp;go_at_call 133;with_reducible apply (KN.o _ b0).mono;rintro e e8 ⟨rfl,d3⟩;have bW:=bt b0 d3;obtain⟨vv,ps,e2,hvv⟩:=(c8.o.bel bW).own.lookup Tryz.lawA Tryz.underWo (Tryz.zeroA _) rfl a4;obtain⟨c,rfl⟩:=uk hvv)
    |(go_simp;go_at_call 274;apply (qAM).mono;rintro e e9 ⟨rfl,d4⟩;have bX:=bt bW d4)
    |(go_simp;go_at_call 272;apply (Zn).mono;rintro e d5 ⟨⟨zz,rfl⟩,d6⟩;have bY:=bt bX d6)
    |fail)
  all_goals
   have HE:Hh (Bl w d5/\ArrAt d5 w.1.size 6 λi=>ai (f i)):=ay ⟨bt c9 bY,d2.o.below Oo bY⟩
   clear bY bX bW b0 HS KN a4 c8 c9 d2 e2 hvv
   go_wp2
   go_roundw;exact⟨j+1,zz,Oo,Gg,rfl,HE⟩;exact Im
 obtain rfl:j=n:=Oo;have i1:=aY j;go_wp2;go_ret;exact⟨⟨_,rfl⟩,x0⟩
def kK(v:Value):Option (DataW Unit×List MemPlace):=match v with
 | .map (some c)=>some (.lit (.int .i64 c),[])
 | .map none=>some (.lit (.int .i64 (-1)),[])
 |_=>none
theorem qAD{z}(h:kK v=some z):∃r,v=.map r:=by
 unfold kK at h;split at h;exact⟨_,rfl⟩;exact⟨_,rfl⟩;cases h
theorem Zk{ps}(h:kK v=some (.lit (.int .i64 c),ps)):v=.map (some c):=by
 unfold kK at h;split at h;simp only[oI,Prod.mk.injEq,DataW.lit.injEq,Lit.int.injEq,true_and]at h;rw[Int.ofNat_inj.1 h.1];simp only[oI,Prod.mk.injEq,DataW.lit.injEq,Lit.int.injEq,true_and]at h;omega;cases h
theorem Tryz.zeroW w:(zeroValue 111).run Tryz.prog w=.ok (.map none) w:=Kl
structure En(W:World)(B be:Nat)(Q:LI->LI->Prop)(es:List (LI×Nat))(D:DataW Unit):Prop where
 map:Wm kK W be (es.map Prod.fst) D
 ref:∀e∈es,∀zd,D.atKey (kla e.1) zd=.lit (.int .i64 e.2)
 inner:∀e∈es,∃ks D',Wm qP W e.2 ks D'/\∀a,a∈ks↔Q e.1 a
 ap:(es.map Prod.snd).Nodup
 low:∀e∈es,B<=e.2
 all:∀s a,Q s a->s∈es.map Prod.fst
structure Kg(S:Nat->Prop)(w W:World):Prop where
 os:W.os=w.os
 tape:W.tape=w.tape
 output:W.output=w.output
 size:w.1.size<=W.1.size
 block:∀k,k<w.1.size->¬S k->W.1[k]?=w.1[k]?
section
variable {S:Nat->Prop} {w W W':World}
theorem Kg.refl S w:Kg S w w:=⟨rfl,rfl,rfl,eA,λ_ _ _=>rfl⟩
theorem Kg.step(h:Kg S w W)(g:Bl W W'):Kg S w W':=⟨g.os.trans h.os,g.tape.trans h.tape,g.output.trans h.output,bM h.size g.size,λk I K=>(g.block k (bN I h.size)).trans (h.block k I K)⟩
theorem Kg.grown{r}(h:Kg S w W)(g:W.grownBy W' r)(O:∀k,r=some k->S k\/w.1.size<=k):Kg S w W':=⟨g.os.trans h.os,g.tape.trans h.tape,g.output.trans h.output,bM h.size g.size,λk I K=>(g.block k (bN I h.size) (λe=>by
 rcases O k e.symm with M|M;exact K M;omega)).trans (h.block k I K)⟩
theorem Kg.kb(h:Kg S w W)(g:Kb c W W')(M:S c):Kg S w W':=⟨g.os.trans h.os,g.tape.trans h.tape,g.output.trans h.output,bM h.size g.size,λk I K=>(g.block k (bN I h.size) (λe=>K (by rw[e];exact M))).trans (h.block k I K)⟩
end
section
variable {W W' W'':World} {B be:Nat} {Q:LI->LI->Prop} {es:List (LI×Nat)} {D:DataW Unit}
theorem En.move(h:En W B be Q es D)(K:W'.1[be]?=W.1[be]?)(M:∀e∈es,W'.1[e.2]?=W.1[e.2]?):En W' B be Q es D:=
 ⟨h.map.move K,h.ref,λe I=>by obtain⟨ks,D',O,V⟩:=h.inner e I;exact⟨ks,D',O.move (M e I),V⟩,h.ap,h.low,h.all⟩
theorem En.bel(h:En W B be Q es D)(hb:Bl W W'):En W' B be Q es D:=h.move (hb.block _ h.map.lt) λe I=>by
 have⟨ks,D',K,M⟩:=h.inner e I;exact hb.block _ K.lt
theorem En.start(w:World):En (w.alloc (.map #[] 0)) B w.1.size (λ_ _=>False) [] (.map []):=⟨Wm.start w,λe h=>(by cases h),λe h=>(by cases h),List.nodup_nil,λe h=>(by cases h),λ_ _ h=>h.elim⟩
theorem En.push{M Df}(h:En W B be Q es D)(hs:Ok6 s)(hn:s∉es.map Prod.fst)(hf:Wm qP W M ks Df)(O:B<=M)(hap:M∉es.map Prod.snd)(a5:be<B)(ho:W'.ownsMap Tryz.prog 137 kK be n (D.put (kla s) (.lit (.int .i64 M))))(ht:W.mapTurned W' be):En W' B be (λx a=>Q x a\/(x=s/\a∈ks)) (es++[(s,M)]) (D.put (kla s) (.lit (.int .i64 M))):=by
 have far:∀{x:Nat} {k2:LL} {V:DataW Unit},B<=x->Wm qP W x k2 V->Wm qP W' x k2 V:=λ{x k2 V} K h2=>h2.move (ht.grown.block x h2.lt Sy);have hm:=h.map.put hs ho;have e1:xa s (es.map Prod.fst)=(es++[(s,M)]).map Prod.fst:=by unfold xa;rw[fF hn,mA];rfl
 rw[e1]at hm;have a3:∀e∈es,e.1≠s:=λe I e2=>hn (e2 ▸ dF I);have a4:∀e∈es,Ok6 e.1:=λe I=>h.map.ok _ (dF I);refine⟨hm,λe I zd=>?_,λe I=>?_,?_,λe I=>?_,λx a K=>?_⟩
 .rcases cF.1 I with I|I;rw[atKey_put_other λe2=>a3 e I (XR (a4 e I) hs e2)];exact h.ref e I _;rw[cI.1 I];exact atKey_put_same (h.map.own.tidy Tryz.lawA).isMap (V0 hs) _ _
 .rcases cF.1 I with I|I;have⟨k2,V,h2,h3⟩:=h.inner e I;exact⟨k2,V,far (h.low e I) h2,λa=>(h3 a).trans ⟨Or.inl,λh4=>h4.elim id λh5=>absurd h5.1 (a3 e I)⟩⟩;rw[cI.1 I];exact⟨ks,Df,far O hf,λa=>⟨λh4=>Or.inr ⟨rfl,h4⟩,λh4=>h4.elim (λh5=>absurd (h.all s a h5) hn) λh5=>h5.2⟩⟩
 rw[mA];exact List.nodup_append.2 ⟨h.ap,Ss,λx K y hy=>by simp at hy;subst hy;exact λe=>hap (e ▸ K)⟩
 .rcases cF.1 I with I|I;exact h.low e I;rw[cI.1 I];exact O
 rw[mA];rcases K with K|K;exact dW _ (h.all x a K);rw[K.1];exact dX _ (cI.2 rfl)
theorem En.congr{I}(h:En W B be Q es D)(e:∀s a,I s a↔Q s a):En W B be I es D:=⟨h.map,h.ref,λx K=>by obtain⟨ks,D',M,O⟩:=h.inner x K;exact⟨ks,D',M,λa=>(O a).trans (e _ a).symm⟩,h.ap,h.low,λs a hq=>h.all s a ((e s a).1 hq)⟩
theorem XQ{α β:Type}{f:α->β}:∀{l:List α},(l.map f).Nodup->∀{x y},x∈l->y∈l->f x=f y->x=y
 |[],_,x,_,hx,_,_=>by cases hx
 |a::l,h,x,y,hx,hy,e=>by
  rw[List.map_cons,List.nodup_cons]at h;rcases cH.1 hx with M|O
  .rcases cH.1 hy with I|K;rw[M,I];exact absurd (by rw[<-M,e];exact dF K) h.1
  rcases cH.1 hy with I|K;exact absurd (by rw[<-I,<-e];exact dF O) h.1;exact XQ h.2 O K e
theorem En.join{k2 D2}(h:En W B be Q es D)(I:(s,c)∈es)(hk:Kb c W W')(hc:Wm qP W' c k2 D2)(hq:∀a,a∈k2↔Q s a\/a∈ks)(a5:be<B)(ho:W''.ownsMap Tryz.prog 137 kK be n (D.put (kla s) (.lit (.int .i64 c))))(ht:W'.mapTurned W'' be):En W'' B be (λx a=>Q x a\/(x=s/\a∈ks)) es (D.put (kla s) (.lit (.int .i64 c))):=by
 have a3:=h.low _ I;have hs:=h.map.ok s (dF (f:=Prod.fst) I);have far:∀{x:Nat} {k3:LL} {D3:DataW Unit},B<=x->Wm qP W' x k3 D3->Wm qP W'' x k3 D3:=λ{x k3 D3} V K=>K.move (ht.grown.block x K.lt Sy);have h0:=h.map.move (hk.block _ h.map.lt Oo);have hm:=h0.put hs ho;have e1:xa s (es.map Prod.fst)=es.map Prod.fst:=by unfold xa;rw[fE (dF (f:=Prod.fst) I)]
 rw[e1]at hm;have a4:∀e∈es,Ok6 e.1:=λe I=>h.map.ok _ (dF I);refine⟨hm,λe M zd=>?_,λe M=>?_,h.ap,h.low,λx a V=>?_⟩
 .by_cases e2:e.1=s;have O:=XQ h.map.nd M I e2;rw[O];exact atKey_put_same (h0.own.tidy Tryz.lawA).isMap (V0 hs) _ _;rw[atKey_put_other λO=>e2 (XR (a4 e M) hs O)];exact h.ref e M _
 .by_cases e2:e.1=s;have O:=XQ h.map.nd M I e2;rw[O];exact⟨k2,D2,far a3 hc,λa=>(hq a).trans ⟨λK=>K.imp id λh3=>⟨rfl,h3⟩,λK=>K.imp id And.right⟩⟩;have⟨k3,D3,K,h3⟩:=h.inner e M;exact⟨k3,D3,far (h.low e M) (K.move (hk.block _ K.lt (λe4=>e2 (congrArg _ (XQ h.ap M I e4))))),λa=>(h3 a).trans ⟨Or.inl,λh4=>h4.elim id λh5=>absurd h5.1 e2⟩⟩
 rcases V with V|V;exact h.all x a V;rw[V.1];exact dF I
end
def Ent(be:Nat)(es:List (LI×Nat))(k:Nat):Prop:=k=be\/k∈es.map Prod.snd
theorem qDW w B be pm bf Q es D Df s ks(h:En w B be Q es D)(hm:w.cell? (az pm 0)=some rgV)(hf:Wm qP w bf ks Df)(hs:Ok6 s)(d5:B<=bf)(hap:bf∉es.map Prod.snd)(c7:be<B)(e1:pm<B)(hn:es.length<=1000000)(hQ:∀k2:LL,k2.Nodup->(∀a∈k2,Q s a)->k2.length<=500000)(e2:ks.length<=500000):
 aF 136 #[.map (some be),asL s,.map (some bf),.func (.func 137) #[.pointer (some (az pm 0))] #[]] w (.tuple #[]) λw'=>(∃c8,(∃D',En w' B be (λx a=>Q x a\/(x=s/\a∈ks)) c8 D')/\c8.length<=es.length+1)/\Kg (Ent be es) w w':=by
 have hk:=yP hs;unfold asL at hk |-;obtain⟨f,c9⟩:=Ex (λi=>s.getD i 0);rw[<-c9]at hk |-;clear c9;obtain⟨W1,V⟩:=Ex (w.alloc (.cells #[ai (f 0),ai (f 1),ai (f 2),ai (f 3),ai (f 4),ai (f 5)] 137));have hA:ArrAt W1 w.1.size 6 λi=>ai (f i):=by rw[V];exact six f _
 have M:Bl w W1:=by rw[V];exact(bJ _ _).alloc (nR _) _
 have HE:=ay (h.bel M);have HF:=ay (hf.bel M);have a7:=(h.bel M).map.own;have HA:=ay hA;have HB:=ay M;have HM:=ay (qF M hm);have d6:(es.map Prod.fst).length=es.length:=lM _;have d7:=ay λe he=>by obtain⟨k2,D2,h2,-⟩:=h.inner e he;exact h2.lt
 have a0:=hA.cell 0 Oo;have a1:=hA.cell 1 Oo;have a2:=hA.cell 2 Oo;have a3:=hA.cell 3 Oo;have a4:=hA.cell 4 Oo;have a5:=hA.cell 5 Oo;have HO:=ay hs;have HQ:=ay hQ;have HP:=ay hap;have d0:(es.map Prod.fst).length<maxLen:=Um;clear hA M h hf hm hs hQ hap d6;unfold asV at hk |-;go_enter func136,ntmps136;go_upto_region 1 with fail;rw[<-V];clear V;go_upto_region 2 with (at_lookup;refine wpList_lookup_own_ok _ rfl _ _ 144 rfl _ _ Tryz.lawA Tryz.underEn _ (Tryz.zeroW _) _ _ rfl _ (es.map Prod.fst).length D rfl a7 _ _ rfl hk ?_;intro v ps hv;obtain⟨r,rfl⟩:=qAD hv);have hh:=HE.o.map.has s HO;cases hkn:Maps.has D (kla s)
 .rw[hkn]at hh;have d1:=of_decide_eq_false hh.symm;clear hh hv;go_wp2_with (at_mapUpdate;refine wpList_mapUpdate_in _ rfl _ _ _ 144 rfl _ _ Tryz.lawA Tryz.underEn _ _ (es.map Prod.fst).length D rfl a7 d0 _ _ _ rfl rfl hk _ _ rfl ?_;intro w1 a8 I);refine bodyPost_end (results_none rfl _ _ _) rfl ⟨rfl,⟨_,⟨_,HE.o.push HO d1 HF d5 HP c7 a8 I⟩,Ss⟩,((Kg.refl _ w).step HB).kb ((Kb.refl be W1).turned I) (Or.inl rfl)⟩
 rw[hkn]at hh;obtain⟨⟨s',c⟩,he,a9⟩:=cC.1 (of_decide_eq_true hh.symm);have a9:s'=s:=a9;subst a9;rw[HE.o.ref _ he]at hv;obtain rfl:r=some c:=Value.map.inj (Zk hv);obtain⟨k1,D1,hw1,b7⟩:=HE.o.inner _ he;have e3:=HE.o.low _ he;have e4:c<w.1.size:=d7 _ he;have e5:=HQ _ hw1.nd λa ha=>(b7 a).1 ha;have KS:=ay (qAP c HM hw1 HF (λe=>HP (e ▸ dF (f:=Prod.snd) he)) Oo Oo);have e6:=hw1.lt;have d3:=ay b7;have d4:=ay he;clear hh hv hw1 b7 he HM HF;go_wp2_with fail;apply KS.o.mono;rintro e w2 ⟨rfl,⟨k2,D2,d9,e0,-⟩,a6⟩;have O:=HA.o.move (a6.block _ (HA.o.lt Oo) Oo);have b0:=O.cell 0 Oo;have b1:=O.cell 1 Oo;have b2:=O.cell 2 Oo;have b3:=O.cell 3 Oo;have b4:=O.cell 4 Oo;have b5:=O.cell 5 Oo;go_wp2_with (first
  |(at_mapUpdate;refine wpList_mapUpdate_in _ rfl _ _ _ 144 rfl _ _ Tryz.lawA Tryz.underEn _ _ (es.map Prod.fst).length D rfl ((HE.o.map.move (a6.block _ HE.o.map.lt Oo)).own) d0 _ _ _ rfl rfl hk _ _ rfl ?_;intro w3 b9 K)
  |fail)
 refine bodyPost_end (results_none rfl _ _ _) rfl ⟨rfl,⟨es,⟨_,HE.o.join d4 a6 d9 (λa=>(e0 a).trans ⟨λh=>h.imp (d3 a).1 id,λh=>h.imp (d3 a).2 id⟩) c7 b9 K⟩,Oo⟩,(((Kg.refl _ w).step HB).kb a6 (Or.inr (dF (f:=Prod.snd) d4))).kb ((Kb.refl be w2).turned K) (Or.inl rfl)⟩
theorem Zj w vs os(h:IS w K vs)(ho:IS w vo os)(hl:vs.length<=1000)(M:os.length<=1099511627776):
 Cl 93 #[K,vo] w λe w'=>∃v,e=.returned v/\w'.ownsRow w.1.size 3 1 v (shr vs os).length ((shr vs os).map ai)/\Bl w w':=by
 have KP:=ay (zq w K _ _ _ h ho Oo M);have HA:=ay (jt vs os);have KV:Hh (∀W vp,Bl w W->IS W vp (plc (λi=>decide (vs.getD i 0∈os)) vs.length)->Cl 91 #[K,vp] W λe w'=>∃v,e=.returned v/\w'.ownsRow W.1.size 3 1 v (shr vs os).length ((shr vs os).map ai)/\Bl W w'):=ay λW vp hW O=>by
  have:=xZ W K _ _ _ ((ay h).o.below hW) O (by have:=xq (λi=>decide (vs.getD i 0∈os)) vs.length;omega) (λp O=>by obtain⟨i,hi,-,rfl⟩:=y7.1 O;omega);rw[HA.o]at this;exact this
 obtain⟨a0,k0,rfl,-⟩:=h;obtain⟨a1,k1,rfl,-⟩:=ho;go_enter func93,ntmps93;go_wp2_with (first
  |(go_at_call 121;apply KP.o.mono;rintro e w2 ⟨v2,rfl,V,I⟩)
  |(go_at_call 91;apply (KV.o _ _ I (qN V)).mono;rintro e w3 ⟨v3,rfl,a3,a4⟩)
  |fail)
 go_ret;exact⟨_,rfl,qE a3 I.size,bt I a4⟩
theorem qB1 w{i size bytes}(ht:P.underlying t=some (.slice e))(hi:P.info? e=some i)(hz:i.zero=some z)
 (a3:i.size=size) (a6:i.bytes=bytes) v n  (M:w.ownsRow base e size v n xs)
 {ad}   (hl:news.length=m*size) (I:∀j u,news[j]?=some u->w.cell? (ad.add j)=some u) (h1:∀u∈news,u.oneCell'=true) (a7:n+m<=maxLen) (K:(n+m)*bytes<=140737488355328)
  (V:(Builtin.append_ #[t,t] ty #[v,.slice (some ad) m c]).run P w=.ok v' w'):v'.ownBlock=v.ownBlock\/Bl w w':=by
 subst a3;subst a6;have a5:n+m<=9223372036854775807:=by simp only[maxLen]at a7;omega
 have dr:∀o:Obj,Bl w (w.drew.alloc o):=λo=>eB.drew.alloc eA o;rcases M.2 with ⟨rfl,rfl⟩|⟨g,cap,cur,rfl,b1,hg,b7,b8,a8,a9⟩
 .by_cases hm:m=0;subst hm;have hn:=List.eq_nil_of_length_eq_zero (by simpa using hl);subst hn;simp[Builtin.append_,run_underlying ht,sizeOf,typeInfo,hi,Builtin.lenOf,Builtin.firstCells,loadCells,loadCellsFrom]at V;rw[<-V.2];exact Or.inr eB;have h2:=run_append_nil w t ty e i z ht hi hz _ m c _ hl I Oo Oo (by have hb:=K;simp only[cU]at hb;omega);rw[h2]at V;injection V with _ e2;rw[<-e2];exact Or.inr (dr _)
 by_cases O:n+m<=cap
 .have h2:=run_append_room w t ty e i ht hi g n _ _ hg _ m c _ hl I h1 O (by rw[hl,a8,<-Nat.add_mul];exact Nat.mul_le_mul_right _ O);rw[h2]at V;injection V with e1 _;rw[<-e1];exact Or.inl rfl
 have h2:=run_append_grow w t ty e i z ht hi hz (az g 0) n cap _ M.1 (M.cells (g:=g) rfl) _ m c _ hl I Oo Oo (growslice_fits Oo K);rw[h2]at V;injection V with _ e2;rw[<-e2];exact Or.inr (dr _)
theorem YD w{ops o a}{K:Act->WP}{Q:Exit->Act->WP}{E}(a5:o.guard=none){s x}
 (ho:o.op=.call { callee:=.builtin .append,args:=#[s,x],argTypes:=#[t,t] })
 base e i z size bytes (ht:P.underlying t=some (.slice e)) (hi:P.info? e=some i) (hz:i.zero=some z)
 (O:i.size=size) (a3:i.bytes=bytes) (a6:z.cells.size=size) (hsz:0<size)
 v n (xs:LV) (hs:a.eval s=v) (I:w.ownsRow base e size v n xs)
 b p m c vx (news:LV) (hx:a.eval x=vx) (hp:(vx=sn/\m=0/\news=[])\/(vx=sZ b p m c/\news.length=m*size/\∀j u,news[j]?=some u->w.cell? (((az b p):Addr).add j)=some u)) (h1:∀u∈news,u.oneCell'=true)
 (a4:n+m<=maxLen) (M:(n+m)*bytes<=140737488355328) (V:base<=w.1.size)
 (h:∀v' w',w'.ownsRow base e size v' (n+m) (xs++news)->w.grownBy w' v.ownBlock->(∀g,v'.ownBlock=some g->v.ownBlock=some g\/g=w.1.size)->(v'.ownBlock=v.ownBlock\/Bl w w')->K (a.put o.dst v') w'):
 if Region.wanted o (yielded ops a.tmps)=true then Oper.wp P o a w K Q else E:=by
 have hw:Region.wanted o (yielded ops a.tmps)=true:=by simp[Region.wanted,a5]
 rw[fE hw];rcases hp with ⟨rfl,rfl,rfl⟩|⟨rfl,hl,hc⟩;have hr:=run_append_owned_none w _ t o.type e i _ ht hi v n _ I;unfold Oper.wp execOp;simp only[ho,resolve,invoke,builtin,Sem.run_bind,Sem.run_pure,Result.andThen_ok,List.map_toArray,List.map_cons,List.map_nil,hs,hx,hr];exact h v w (by simpa using I) ⟨rfl,rfl,rfl,eA,λ_ _ _=>rfl⟩ (λg hg=>Or.inl hg) (Or.inl rfl);have⟨v',w',hr,h2,h3,_,h5⟩:=run_append_own_at w _ t o.type e i z _ _ ht hi hz O a3 a6 hsz v n _ I _ m c _ hl hc h1 a4 M V;unfold Oper.wp execOp;simp only[ho,resolve,invoke,builtin,Sem.run_bind,Sem.run_pure,Result.andThen_ok,List.map_toArray,List.map_cons,List.map_nil,hs,hx,hr];exact h _ _ h2 h3 (λg hg=>h5.imp (λe=>by rw[<-e];exact hg) λe=>by rw[hg]at e;exact Option.some.inj e) (qB1 w ht hi hz O a3 v n I hl hc h1 a4 M hr)
def PtI(w:World)(v:Value)(l:LI):Prop:=(v=sn/\l=[])\/∃b p c,v=sZ b p l.length c/\∀j,j<l.length->w.cell? (az b (p+j))=some (ai (l.getD j 0))
theorem PtI.is(h:PtI w v l):IS w v l:=by
 rcases h with ⟨rfl,rfl⟩|⟨b,p,c,rfl,h⟩;exact⟨none,0,rfl,Or.inl rfl⟩;exact⟨_,c,rfl,Or.inr ⟨b,p,rfl,h⟩⟩
theorem PtI.below(h:PtI w v l)(hb:Bl w w'):PtI w' v l:=by
 rcases h with h|⟨b,p,c,rfl,h⟩;exact Or.inl h;exact Or.inr ⟨b,p,c,rfl,λj I=>qF hb (h j I)⟩
theorem PtI.part(h:PtI w v l):∃b p c,(v=sn/\l.length=0/\l.map ai=[])\/(v=sZ b p l.length c/\(l.map ai).length=l.length*1/\∀j u,(l.map ai)[j]?=some u->w.cell? (((az b p):Addr).add j)=some u):=by
 rcases h with ⟨rfl,rfl⟩|⟨b,p,c,rfl,h⟩;exact⟨0,0,0,Or.inl ⟨rfl,rfl,rfl⟩⟩;refine⟨b,p,c,Or.inr ⟨rfl,Ss,λj u I=>?_⟩⟩;rw[bK,Option.map_eq_some_iff]at I;obtain⟨x,M,rfl⟩:=I;have⟨K,e⟩:=List.getElem?_eq_some_iff.1 M;have O:((az b p):Addr).add j=(az b (p+j)):=by simp[Addr.add]
 rw[O,h j K,gdR K,e]
structure HdS(w W:World)(S:Nat->Prop)(lo pm:Nat)(vo v:Value)(ow L:LI):Prop where
 own:W.ownsRow lo 3 1 v (ow++L).length ((ow++L).map ai)
 is:IS W vo ow
 blk:∀g,v.ownBlock=some g->S g\/w.1.size<=g
 form:(vo=sn/\ow=[])\/∃g c,vo=sZ g 0 ow.length c/\g<W.1.size/\g≠pm
theorem HdS.step(h:HdS w W S lo pm vo v ow L)(ho:W'.ownsRow lo 3 1 v' ((ow++L).length+l.length) ((ow++L).map ai++l.map ai))(hg:W.grownBy W' v.ownBlock)(hb:∀g,v'.ownBlock=some g->v.ownBlock=some g\/g=W.1.size)(M:v'.ownBlock=v.ownBlock\/Bl W W')(hs:w.1.size<=W.1.size):HdS w W' S lo pm vo v' ow (L++l):=by
 refine⟨by
  rw[<-dN];generalize ow++L=X at *;rw[lA,mA];exact ho,?_,λg hv=>?_,?_⟩
 .rcases h.form with ⟨rfl,rfl⟩|⟨g,c,rfl,I,-⟩;exact⟨none,0,rfl,Or.inl rfl⟩;rcases M with M|M
  .by_cases e:v.ownBlock=some g
   .refine⟨_,c,rfl,Or.inr ⟨g,0,rfl,λj O=>?_⟩⟩;have hc:=ho.cells (M.trans e) j (ai (ow.getD j 0)) (by
     rw[aL (by rw[lM,lA];omega),bK,aL O,gE O,gdR O];rfl)
    have K:∀p:Nat,((az g p):Addr).add j=(az g (p+j)):=λp=>by simp[Addr.add]
    rw[<-K 0];exact hc
   have⟨a,k,K,h1⟩:=h.is;refine⟨a,k,K,h1.imp id ?_⟩;rintro⟨b,o,V,h2⟩;refine⟨b,o,V,λj O=>?_⟩;rw[V]at K;simp only[vI,oI,Addr.mk.injEq]at K;rw[<-K.1.1]at h2 |-;exact(bF (hg.block g I (λV=>e V.symm))).trans (h2 j O)
  exact h.is.below M
 .rcases hb g hv with h1|h1;exact h.blk g h1;exact Or.inr Oo
 exact h.form.imp id λ⟨g,c,e,I,hp⟩=>⟨g,c,e,bN I hg.size,hp⟩
theorem HdS.move(h:HdS w W S lo pm vo v ow L)(hs:W.1.size<=W'.1.size)(h1:∀k,k<W.1.size->k≠pm->W'.1[k]?=W.1[k]?)(h2:some pm≠v.ownBlock):HdS w W' S lo pm vo v ow L:=by
 have g:W'.ownsRow lo 3 1 v (ow++L).length ((ow++L).map ai):=by
  refine⟨h.own.1,?_⟩;rcases h.own.2 with O|⟨g,cap,cur,e,hb,hg,rest⟩;exact Or.inl O;refine Or.inr ⟨g,cap,cur,e,hb,(h1 g (dK.1 hg).1 λK=>h2 (by rw[e,K];rfl)).trans hg,rest⟩
 refine⟨g,?_,h.blk,h.form.imp id λ⟨g,c,e,I,V⟩=>⟨g,c,e,bN I hs,V⟩⟩;rcases h.form with ⟨rfl,rfl⟩|⟨g,c,rfl,I,V⟩;exact⟨none,0,rfl,Or.inl rfl⟩;have⟨a,k,M,O⟩:=h.is;refine⟨a,k,M,O.imp id ?_⟩;rintro⟨b,o,K,h4⟩;refine⟨b,o,K,λj hj=>?_⟩;rw[K]at M;simp only[vI,oI,Addr.mk.injEq]at M;rw[<-M.1.1]at h4 |-;exact(bF (h1 g I V)).trans (h4 j hj)
structure Ch where
 sh:LI
 hd:LI
 Q:LI->LI->Prop
def zF:Ch:=⟨[],[],λ_ _=>False⟩
structure ChA(w:World)(s1 s2:Value)(be:Nat)(c:Ch):Prop where
 sh:IS w s1 c.sh
 hd:PtI w s2 c.hd
 en:∃B es D,En w B be c.Q es D
 ls:c.sh.length<=1000/\c.hd.length<=1000
 i1:∀y∈c.sh,0<=y/\y<6
 i2:∀y∈c.hd,0<=y/\y<6
def MsS(w0 W:World)(lo:Nat)(v:Value)(cs:List Ch):Prop:=∃a cap,v=.slice a cs.length cap/\(cs.length=0\/∃b o,a=some (az b o)/\lo<=b/\∀j,j<cs.length->∃a1 n1 k1 a2 n2 k2 be,W.cell? (az b (o+j*4))=some rgV/\W.cell? (az b (o+j*4+1))=some (.slice a1 n1 k1)/\W.cell? (az b (o+j*4+2))=some (.slice a2 n2 k2)/\W.cell? (az b (o+j*4+3))=some (.map (some be))/\ChA w0 (.slice a1 n1 k1) (.slice a2 n2 k2) be (cs.getD j zF))
theorem MsS.keep{cs}(h:MsS w0 W lo v cs)(K:∀k,lo<=k->k<W.1.size->W'.1[k]?=W.1[k]?):MsS w0 W' lo v cs:=by
 obtain⟨a,cap,rfl,h⟩:=h;refine⟨a,cap,rfl,?_⟩;rcases h with h|⟨b,o,rfl,hb,h⟩;exact Or.inl h;refine Or.inr ⟨b,o,rfl,hb,λj M=>?_⟩;have⟨a1,n1,k1,a2,n2,k2,be,I,O,V,h4,h5⟩:=h j M;have c:∀{p:Nat} {u:Value},aC W b p u->aC W' b p u:=λ{p u} hu=>(bF (K b hb (bL W _ I))).trans hu;exact⟨a1,n1,k1,a2,n2,k2,be,c I,c O,c V,c h4,h5⟩
section
variable {S:Nat->Prop} {w W W':World}
theorem Kg.set(h:Kg S w W){p}(K:S p.block)u:Kg S w (W.setCell p u):=⟨h.os,h.tape,h.output,by rw[World.size_setCell];exact h.size,λk M I=>(eG (λe=>I (by rw[e];exact K))).trans (h.block k M I)⟩
theorem Kg.below{N}(h:Kg S w W)(I:Below N w0 w)(V:N<=w.1.size)(K:∀k,S k->N<=k):Below N w0 W:=⟨h.os.trans I.os,h.tape.trans I.tape,h.output.trans I.output,bM I.size h.size,λk M=>(h.block k Oo (λO=>O1 (K k O))).trans (I.block k M)⟩
end
def MgB(W:World)(pm be:Nat)(vsh v:Value):Prop:=W.1[pm]?=some (.cells #[rgV,vsh,v,.map (some be)] 146 (0,0))
theorem MgB.cells(h:MgB W pm be vsh v):W.cell? (az pm 0)=some rgV/\W.cell? (az pm 1)=some vsh/\W.cell? (az pm 2)=some v/\W.cell? (az pm 3)=some (.map (some be))/\W.frozen? (az pm 2)=false/\pm<W.1.size:=
 ⟨by rw[eI h];rfl,by rw[eI h];rfl,by rw[eI h];rfl,by rw[eI h];rfl,by unfold World.frozen?;rw[h];simp,(dK.1 h).1⟩
theorem MgB.move(h:MgB W pm be vsh v)(e:W'.1[pm]?=W.1[pm]?):MgB W' pm be vsh v:=e.trans h
theorem MgB.set(h:MgB W pm be vsh v)u:MgB (W.setCell (az pm 2) u) pm be vsh u:=by
 unfold MgB at h |-;rw[eN h];rfl
theorem xn(ho:W.ownsRow base 3 1 v n xs)(I:MgB W pm be vsh K):some pm≠v.ownBlock:=by
 rcases ho.2 with ⟨rfl,-⟩|⟨g,cap,cur,rfl,-,M,-⟩;intro e;cases e
 intro e;have e:pm=g:=Option.some.inj e;subst e;unfold MgB at I;rw[M]at I;simp only[oI,Obj.cells.injEq]at I;exact absurd I.2.1 Dd
end
section
variable {ow sh:LI}{b be n pm p m B k o j:Nat}{v vsh u vo v0 v1 v2:Value}{W W' w A X Y:World}{D:DataW Unit}{es:List (LI×Nat)}{S:Nat->Prop}{cs:List Ch}
structure Ga(w0 w:World)(S:Nat->Prop)(lo hi pm be:Nat)(v0 v1 v2 vr vb vsh vo:Value)(b:LI)(rows:LL)(ws:LI)(nr:Nat)(cs:List Ch)(sh ow:LI):Prop where
 bel:Bl w0 w
 zone:w0.1.size<=lo/\hi<=w.1.size
 inS:∀k,S k->lo<=k/\k<hi
 spm:S pm
 sbe:S be
 sho:∀g,vo.ownBlock=some g->S g
 tab:IT w0 v0 v1 v2 b rows ws
 ok:ql b rows ws=true
 wf:Wf rows
 rat:RgS w0 w hi vr nr
 nr:nr<=1000
 msg:MsS w0 w hi vb cs
 few:cs.length<=20
 shr:∀W,Kg S w W->IS W vsh sh
 lsh:sh.length<=1000/\∀y∈sh,0<=y/\y<6
section
variable {w0 w W:World} {S:Nat->Prop} {lo hi pm be:Nat} {v0 v1 v2 vr vb vsh vo:Value} {b:LI} {rows:LL} {ws:LI} {nr:Nat} {cs:List Ch} {sh ow:LI}
theorem Ga.b0(h:Ga w0 w S lo hi pm be v0 v1 v2 vr vb vsh vo b rows ws nr cs sh ow)(g:Kg S w W):Bl w0 W:=g.below h.bel (by have:=h.zone;have:=h.bel.size;omega) λk I=>by have:=h.inS k I;have:=h.zone;omega
theorem Ga.msgs(h:Ga w0 w S lo hi pm be v0 v1 v2 vr vb vsh vo b rows ws nr cs sh ow)(g:Kg S w W):MsS w0 W hi vb cs:=h.msg.keep λk M I=>g.block k I λK=>O1 (h.inS k K)
theorem Ga.rats(h:Ga w0 w S lo hi pm be v0 v1 v2 vr vb vsh vo b rows ws nr cs sh ow)(g:Kg S w W):RgS w0 W hi vr nr:=h.rat.keep λk M I=>g.block k I λK=>O1 (h.inS k K)
end
theorem qDX{R ks}(I:MgB W pm be vsh v)(h:Wm R W b ks D):b≠pm:=λe=>by
 obtain⟨x,y,K,-⟩:=h.own;unfold MgB at I;rw[e,I]at K;cases K
theorem Xq{base t}{xs:LV}(ho:W.ownsRow base 3 1 v n xs)(M:∃cur,W.1[p]?=some (.cells cur t (0,0)))(I:(3:TypeId)≠t):some p≠v.ownBlock:=by
 rcases ho.2 with ⟨rfl,-⟩|⟨g,cap,cur,rfl,-,O,-⟩;intro e;cases e
 intro e;have e:p=g:=Option.some.inj e;subst e;have⟨c2,K⟩:=M;rw[O]at K;simp only[oI,Obj.cells.injEq]at K;exact I K.2.1
theorem YE{k d}(h:Wm qP X m [] (.map []))(hb:Bl A X)(I:A.1.size<=m)(K:Ok6 k)(ho:Y.ownsMap Tryz.prog 137 qP m n (DataW.put (.map []) (kla k) d))(M:X.mapTurned Y m):Bl A Y/\A.1.size<=m/\Wm qP Y m [k] (DataW.put (.map []) (kla k) d):=
 ⟨hb.trans (((Kb.refl m X).turned M).below hb.size I),I,h.put K ho⟩
theorem Kg.nomap{Q}(g:Kg (Ent be es) W W')(h:En W B be Q es D)(K:k<W.1.size)(I:∀x y,W.1[k]?≠some (.map x y)):W'.1[k]?=W.1[k]?:=g.block k K (by
 rintro (rfl|M);obtain⟨x,y,e,-⟩:=h.map.own;exact I _ _ e;obtain⟨e,O,rfl⟩:=cC.1 M;have⟨k3,D3,V,_⟩:=h.inner e O;obtain⟨x,y,e1,-⟩:=V.own;exact I _ _ e1)
theorem jo(h:W.cell? (az b o)=some u):∀x y,W.1[b]?≠some (.map x y):=λx y e=>by
 unfold World.cell? at h;rw[e]at h;simp at h
theorem Kg.ent(h:Kg S w W)(g:Kg (Ent be es) W W')(hb:S be)(hl:∀e∈es,w.1.size<=e.2):Kg S w W':=⟨g.os.trans h.os,g.tape.trans h.tape,g.output.trans h.output,bM h.size g.size,λk I K=>(g.block k (bN I h.size) (by
 rintro (rfl|M);exact K hb;obtain⟨e,O,rfl⟩:=cC.1 M;have:=hl e O;omega)).trans (h.block k I K)⟩
theorem HdS.keep{lo L}(h:HdS w W S lo pm vo v ow L)(hs:W.1.size<=W'.1.size)(h1:∀k,k<W.1.size->(∀x y,W.1[k]?≠some (.map x y))->W'.1[k]?=W.1[k]?):HdS w W' S lo pm vo v ow L:=by
 refine⟨⟨h.own.1,?_⟩,?_,h.blk,h.form.imp id λ⟨g,c,e,hlt,hp⟩=>⟨g,c,e,bN hlt hs,hp⟩⟩
 .rcases h.own.2 with K|⟨g,cap,cur,e,hb,M,rest⟩;exact Or.inl K;exact Or.inr ⟨g,cap,cur,e,hb,(h1 g (dK.1 M).1 λx y I=>by rw[M]at I;cases I).trans M,rest⟩
 have⟨a,k,e1,K⟩:=h.is;refine⟨a,k,e1,K.imp id ?_⟩;rintro⟨b,o,I,O⟩;exact⟨b,o,I,λj V=>(bF (h1 b (bL W _ (O j V)) (jo (O j V)))).trans (O j V)⟩
def hds(cs:List Ch)(j:Nat):LI:=(cs.take j).flatMap Ch.hd
theorem Qq(h:j<cs.length):hds cs (j+1)=hds cs j++(cs.getD j zF).hd:=by
 unfold hds;rw[tA,gE h,dM,gdR h];simp
def jU(ow a:LI)(cs:List Ch):Nat->LI->Prop
 |0,h=>h=xM ow a
 |j+1,h=>∃x y,jU ow a cs j x/\(cs.getD j zF).Q (xM (cs.getD j zF).sh a) y/\h=xu (cs.getD j zF).hd x y
def yG(b sh ow:LI)(rows:LL)(cs:List Ch)(n:Nat)(s h:LI):Prop:=∃i,i<n/\s=xM sh (xx b (rows.getD i []))/\jU ow (xx b (rows.getD i [])) cs cs.length h
theorem qEd{b rows s h}:yG b sh ow rows cs (n+1) s h↔yG b sh ow rows cs n s h\/(s=xM sh (xx b (rows.getD n []))/\jU ow (xx b (rows.getD n [])) cs cs.length h):=by
 constructor
 .rintro⟨i,hi,I,K⟩;by_cases e:i=n;subst e;exact Or.inr ⟨I,K⟩;exact Or.inl ⟨i,Oo,I,K⟩
 rintro (⟨i,hi,I,K⟩|⟨I,K⟩);exact⟨i,Oo,I,K⟩;exact⟨n,Oo,I,K⟩
structure Gs(w W:World)(S:Nat->Prop)(lo pm be:Nat)(vsh vo v:Value)(ow L:LI)(Q:LI->LI->Prop)(es:List (LI×Nat))(D:DataW Unit):Prop where
 kg:Kg S w W
 mb:MgB W pm be vsh v
 hd:HdS w W S lo pm vo v ow L
 en:En W w.1.size be Q es D
theorem qAE w0 w S lo hi pm be vr vb vsh vo{b rows ws}nr D0
 (h:Ga w0 w S lo hi pm be v0 v1 v2 vr vb vsh vo b rows ws nr cs sh ow) (h0:Gs w w S lo pm be vsh vo vo ow [] (λ_ _=>False) [] D0) (how:ow.length<=1000/\∀y∈ow,0<=y/\y<6)
 (l3:∀r∈rows,∀q,q<cs.length->∃y,(cs.getD q zF).Q (xM (cs.getD q zF).sh (xx b r)) y)
 (l4:∀r∈rows,∀q,q<=cs.length->∀ks:LL,ks.Nodup->(∀a∈ks,jU ow (xx b r) cs q a)->ks.length<=500000)
 (f7:∀q,q<cs.length->∀(s:LI) (ks:LL),ks.Nodup->(∀a∈ks,(cs.getD q zF).Q s a)->ks.length<=500000)
 (l5:∀i,i<=rows.length->∀(s:LI) (ks:LL),ks.Nodup->(∀a∈ks,yG b sh ow rows cs i s a)->ks.length<=500000):
 aF 94 #[.pointer (some (az pm 0)),.agg #[v0,v1,v2],vr,vb] w (.tuple #[]) λw'=>∃v es,es.length<=rows.length/\∃D,Gs w w' S lo pm be vsh vo v ow (hds cs cs.length) (yG b sh ow rows cs rows.length) es D:=by
 obtain⟨i0,p6,p7,p8,p9⟩:=info_parts Tryz.infoInt;have t6:Tryz.prog.follows .mixedOrders=true:=Kl;have v7:=@run_makeMap Tryz.prog;have V:=ay h;obtain⟨a0,k0,rfl,-⟩:=h.tab.vs;obtain⟨a1,k1,rfl,hc1⟩:=h.tab.rows;obtain⟨a2,k2,rfl,-⟩:=h.tab.ws;obtain⟨ar,kr,rfl,-⟩:=h.rat;obtain⟨ab,kb,rfl,-⟩:=id h.msg;obtain⟨ao,ko,rfl,-⟩:=h0.hd.is;obtain⟨ah,kh,rfl,-⟩:=h.shr w (Kg.refl S w);obtain⟨n,hn⟩:=Ex cs.length;have l6:=h.few;rw[<-hn]at l6;obtain⟨W1,h4⟩:=Ex (w.alloc (.cells #[.slice a0 b.length k0,.slice a1 rows.length k1,.slice a2 ws.length k2] 58));have d8:Bl w W1:=by rw[h4];exact(bJ _ _).alloc (nR _) _
 have l7:TX W1 w.1.size (.slice a0 b.length k0) (.slice a1 rows.length k1) (.slice a2 ws.length k2):=by rw[h4];exact TX.made w _ _ _
 have HN:=ay hn;have j4:=ay how;have q0:=ay l3;have q3:=ay l4;have q4:=ay f7;have q5:=ay l5;have j5:Hh (Gs w W1 S lo pm be (.slice ah sh.length kh) (.slice ao ow.length ko) (.slice ao ow.length ko) ow (hds cs 0) (λ_ _=>False) [] D0/\TX W1 w.1.size (.slice a0 b.length k0) (.slice a1 rows.length k1) (.slice a2 ws.length k2)):=ay ⟨⟨(Kg.refl S w).step d8,h0.mb.move (d8.block _ h0.mb.cells.2.2.2.2.2),⟨qB h0.hd.own d8,h0.hd.is.below d8,h0.hd.blk,h0.hd.form.imp id λ⟨g,c,e,hlt,hp⟩=>⟨g,c,e,bN hlt d8.size,hp⟩⟩,h0.en.bel d8⟩,l7⟩;obtain⟨m0,m1,m2,m3,-⟩:=j5.1.mb.cells;rw[hn.symm];clear h h0 hc1 hn d8 l7 how l3 l4 f7 l5;go_enter func94,ntmps94;go_upto_region 1 with fail;rw[<-h4];clear h4;go_wp2;go_loopw [23] (λt wr=>∃(j:Nat) (v:Value),j<=n/\t=ai j/\(hds cs j).length<=j*1000/\Hh (Gs w wr S lo pm be (.slice ah sh.length kh) (.slice ao ow.length ko) v ow (hds cs j) (λ_ _=>False) [] D0/\TX wr w.1.size (.slice a0 b.length k0) (.slice a1 rows.length k1) (.slice a2 ws.length k2))) (λt _=>n-(intOf t).toNat);exact⟨0,_,nZ _,rfl,nR _,j5⟩;clear j5 m0 m1 m2 m3;obtain⟨j,v,hj,rfl,v8,HX⟩:=hrel;by_cases q6:j<n
 .have i1:(j:Int)<n:=Oo;have j6:j<cs.length:=by rw[<-HN.o];exact q6
  obtain⟨q7,q8,eb,f8⟩:=V.o.msgs HX.1.kg;simp only[Value.slice.injEq]at eb;obtain⟨rfl,-,rfl⟩:=eb;rcases f8 with h0|⟨b1,o1,rfl,q9,h5⟩;omega;obtain⟨c1,n1,q1,c2,n2,q2,bj,g0,g1,g2,g3,f7⟩:=h5 j j6;unfold rgV at g0;go_upto_region 5 with fail;have f9:Bl wr (wr.alloc (.cells #[.iface 68 (.agg #[]),.slice c1 n1 q1,.slice c2 n2 q2,.map (some bj)] 146)):=(bJ _ _).alloc (nR _) _;have r3:(wr.alloc (.cells #[.iface 68 (.agg #[]),.slice c1 n1 q1,.slice c2 n2 q2,.map (some bj)] 146)).cell? (az wr.1.size 2)=some (.slice c2 n2 q2):=by rw[bE _ _ _ _ rfl];rfl
  have t7:(wr.alloc (.cells #[.iface 68 (.agg #[]),.slice c1 n1 q1,.slice c2 n2 q2,.map (some bj)] 146)).1.size=wr.1.size+1:=Ss;generalize (wr.alloc (.cells #[.iface 68 (.agg #[]),.slice c1 n1 q1,.slice c2 n2 q2,.map (some bj)] 146))=W2 at *;have d9:=f9.drew;obtain⟨x1,x2⟩:=HX.o;have r4:=x1.mb.cells.2.2.2.2.2;have c8:=x1.mb.move (d9.block _ r4);have a8:=x1.hd.move d9.size (λk hk _=>d9.block k hk) (xn x1.hd.own x1.mb);have h7:=x1.kg.step d9;have h8:=x1.en.bel d9;have h9:=x2.below d9;have r5:=(f7.hd.below (V.o.b0 h7)).part;obtain⟨bp,pp,cp,g4⟩:=r5;have v9:=f7.ls.2;have r6:lo<=W2.drew.1.size:=by have:=V.o.zone;have:=(V.o.inS _ V.o.spm).1;have:=d9.size;omega
  have hold:(ow++hds cs j).length<=21000:=by rw[lA];have:=j4.1;omega
  have m2:W2.cell? (az pm 2)=some v:=c8.cells.2.2.1;generalize wr.1.size=z1 at *;go_region_law (first
   |(refine YD W2.drew Fl Fl lo 3 i0 (ai 0) 1 8 underlying24 p6 p7 p8 p9 rfl Dd v (ow++hds cs j).length ((ow++hds cs j).map ai) Fl a8.own bp pp (cs.getD j zF).hd.length cp (.slice c2 n2 q2) ((cs.getD j zF).hd.map ai) Fl g4 (λu hu=>by obtain⟨y,-,rfl⟩:=cC.1 hu;rfl) Um Oo r6 ?_;intro v3 w3 i4 hg3 b7 l8;obtain⟨a3,k3,e3⟩:=qG i4;subst e3;(generalize l9:(ow++hds cs j).length+(cs.getD j zF).hd.length=N3 at *);have r7:=ay l9;clear l9;have b9:=c8.move (hg3.block _ c8.cells.2.2.2.2.2 (xn a8.own c8));have m3:=b9.cells.2.2.1;have r8:=b9.cells.2.2.2.2.1)
   |fail)
  all_goals
   have hst:=a8.step (by rw[r7.o];exact i4) hg3 b7 l8 h7.size
   have i7:=b9.set (.slice a3 N3 k3)
   have m4:=xn i4 b9
   have hE:Hh (Gs w (w3.setCell (az pm 2) (.slice a3 N3 k3)) S lo pm be (.slice ah sh.length kh) (.slice ao ow.length ko) (.slice a3 N3 k3) ow (hds cs (j+1)) (λ_ _=>False) [] D0/\TX (w3.setCell (az pm 2) (.slice a3 N3 k3)) w.1.size (.slice a0 b.length k0) (.slice a1 rows.length k1) (.slice a2 ws.length k2)):=ay (by
    have hS:=V.o.inS _ V.o.spm;have r9:=V.o.zone;refine⟨⟨(h7.grown hg3 a8.blk).set V.o.spm _,i7,?_,?_⟩,?_⟩;rw[Qq j6];exact hst.move (by rw[World.size_setCell];exact nR _) (λk _ hk=>bD _ _ _ _ (by exact hk)) m4;have e1:=h8.move (hg3.block _ h8.map.lt (QM a8.own h8.map)) (λe he=>by cases he);exact e1.move (bD _ _ _ _ (qDX b9 e1.map)) (λe he=>by cases he);refine⟨(bD _ _ _ _ (by show w.1.size≠pm;omega)).trans ((hg3.block _ h9.lt (Xq a8.own h9.typ Dd)).trans h9.blk)⟩)
   have m5:(hds cs (j+1)).length<=(j+1)*1000:=by rw[Qq j6,lA];omega
   clear hst i7 m4 i4 hg3 b7 l8 b9 m3 r8 g4 a8 h7 h8 h9 c8 m2 r3
   go_wp2
   go_roundw;exact⟨j+1,_,Oo,Gg,m5,hE⟩;exact Im
 obtain rfl:j=n:=Oo;have i1:¬((j:Int)<j):=Oo;have t1:=HX.2.c1;have m6:Hh (Gs w wr S lo pm be (.slice ah sh.length kh) (.slice ao ow.length ko) v ow (hds cs j) (yG b sh ow rows cs 0) [] D0/\TX wr w.1.size (.slice a0 b.length k0) (.slice a1 rows.length k1) (.slice a2 ws.length k2)):=ay ⟨⟨HX.1.kg,HX.1.mb,HX.1.hd,⟨HX.1.en.map,HX.1.en.ref,λe he=>(by cases he),HX.1.en.ap,λe he=>(by cases he),λs a h=>by obtain⟨i,hi,-⟩:=h;omega⟩⟩,HX.2⟩;clear HX;go_wp2;clear t1;go_loopw [41] (λt wr=>∃(i:Nat) (es:List (LI×Nat)) (D:DataW Unit),i<=rows.length/\t=ai i/\es.length<=i/\Hh (Gs w wr S lo pm be (.slice ah sh.length kh) (.slice ao ow.length ko) v ow (hds cs j) (yG b sh ow rows cs i) es D/\TX wr w.1.size (.slice a0 b.length k0) (.slice a1 rows.length k1) (.slice a2 ws.length k2))) (λt _=>rows.length-(intOf t).toNat);exact⟨0,[],D0,nZ _,rfl,nR _,m6⟩;clear m6;obtain⟨i,es,D,m7,rfl,w4,HX⟩:=hrel;by_cases e8:i<rows.length
 .have i2:(i:Int)<(rows.length:Int):=Oo;obtain⟨x1,x2⟩:=HX.o;have k4:=V.o.b0 x1.kg;obtain⟨a9,k9,e9,e6⟩:=V.o.tab.rows.below k4;simp only[Value.slice.injEq]at e9;obtain⟨rfl,-,rfl⟩:=e9;rcases e6 with h0|⟨b3,o3,rfl,e6⟩;omega;obtain⟨u,d1,hu⟩:=e6 i e8;obtain⟨au,ku,rfl,-⟩:=id hu;have k5:=qz (d:=[]) e8;obtain⟨g5,t8,m8⟩:=qL V.o.ok;obtain⟨h6,s8⟩:=V7 g5;have KA:=ay (QW _ b (V.o.tab.vs.below k4) hu (m8 _ k5) s8 h6 (xK g5));have a6:Ok6 (xx b (rows.getD i [])):=V9 (V.o.wf _ k5);have t0:=x2.c0;clear e6 hu m8 h6 g5 k4 k5;generalize hfa:(xS b λi'=>vlF b (rows.getD i []) i')=fa at *;generalize (rows.getD i []).length=lr at *;go_upto_region 11 with (go_at_call 132;apply KA.o.mono;rintro e w2 ⟨rfl,m9⟩;unfold asV);have b7:Bl wr (w2.alloc (.cells #[ai (fa 0),ai (fa 1),ai (fa 2),ai (fa 3),ai (fa 4),ai (fa 5)] 137)):=bt m9 (aK);have n3:=six (w:=w2) fa 137;generalize (w2.alloc (.cells #[ai (fa 0),ai (fa 1),ai (fa 2),ai (fa 3),ai (fa 4),ai (fa 5)] 137))=W3 at *;generalize w2.1.size=za at *;have a8:=x1.hd.move b7.size (λk hk _=>b7.block k hk) (xn x1.hd.own x1.mb);have n4:Gs w W3 S lo pm be (.slice ah sh.length kh) (.slice ao ow.length ko) v ow (hds cs j) (yG b sh ow rows cs i) es D:=⟨x1.kg.step b7,x1.mb.move (b7.block _ x1.mb.cells.2.2.2.2.2),a8,x1.en.bel b7⟩;have M:=ay (And.intro n4 (x2.below b7));have c9:=ay n3;have HZ:Hh (asV fa=asL (xx b (rows.getD i []))):=ay (by rw[qHe,hfa]);have g6:Hh (∀l,asV (xS l fa)=asL (xM l (xx b (rows.getD i [])))):=ay λl=>by
   rw[qHf];unfold asV xS xR;rw[<-hfa];rfl
  have s9:=ay (q0 _ (qz (d:=[]) e8));have n5:=ay (q3 _ (qz (d:=[]) e8));have t2:Hh (∀s h,yG b sh ow rows cs (i+1) s h↔yG b sh ow rows cs i s h\/(s=xM sh (xx b (rows.getD i []))/\jU ow (xx b (rows.getD i [])) cs cs.length h)):=ay λs h=>qEd;clear x1 x2 b7 n3 a8 n4 HX t0 m9 KA d1;generalize xx b (rows.getD i [])=ka at *;go_cut [14] from 45 (λu wc=>∃(bm:Nat) (Dm:DataW Unit),u=.map (some bm)/\Hh (Bl W3 wc/\W3.1.size<=bm/\Wm qP wc bm [xM ow ka] Dm))
  case first=>
   have a7:keyOf Tryz.prog 137 (asV (xS ow fa))=some (kla (xM ow ka)):=by rw[g6.o];exact yP (uq a6)
   have KO:Hh (∀W,Bl W3 W->Cl 133 #[.agg #[ai (fa 0),ai (fa 1),ai (fa 2),ai (fa 3),ai (fa 4),ai (fa 5)],.slice ao ow.length ko] W λe w'=>e=.returned (asV (xS ow fa))/\Bl W w'):=ay λW I=>jq W _ _ (M.1.hd.is.below I) j4.1 j4.2;have KR:Hh (∀W,Bl W3 W->Cl 134 #[.pointer (some (az pm 0)),.agg #[ai (fa 0),ai (fa 1),ai (fa 2),ai (fa 3),ai (fa 4),ai (fa 5)],.slice ar nr kr] W λe w'=>(∃z,e=.returned (ai z))/\Bl W w'):=ay λW I=>by
    have hk:=M.1.kg.step I;have:=qDb W (qF I M.1.mb.cells.1) a6 (V.o.b0 hk) (V.o.rats hk) V.o.nr;rw[<-HZ.o]at this;exact this
   have HS:Hh (∀W,Bl W3 W->W.cell? (az za 0)=some (ai (fa 0))/\W.cell? (az za 1)=some (ai (fa 1))/\W.cell? (az za 2)=some (ai (fa 2))/\W.cell? (az za 3)=some (ai (fa 3))/\W.cell? (az za 4)=some (ai (fa 4))/\W.cell? (az za 5)=some (ai (fa 5))):=ay λW I=>⟨(c9.o.below Oo I).cell 0 Oo,(c9.o.below Oo I).cell 1 Oo,(c9.o.below Oo I).cell 2 Oo,(c9.o.below Oo I).cell 3 Oo,(c9.o.below Oo I).cell 4 Oo,(c9.o.below Oo I).cell 5 Oo⟩;have b0:Bl W3 W3.drew:=(bJ _ _).drew;clear M V;go_region_held_law (λW=>W.cell? (az za 0)=some (ai (fa 0))/\W.cell? (az za 1)=some (ai (fa 1))/\W.cell? (az za 2)=some (ai (fa 2))/\W.cell? (az za 3)=some (ai (fa 3))/\W.cell? (az za 4)=some (ai (fa 4))/\W.cell? (az za 5)=some (ai (fa 5)))
    (first
     |(refine HS _ HE.1;done)
     |(refine HS.o _ ?_;(repeat(with_reducible first|exact bJ _ _|exact bW|exact bX|refine qT ?_|refine qC ?_ _));done)
     |fail)
    (first
     |(go_simp;go_at_call 133;(with_reducible refine(KO.o _ (by(repeat(with_reducible first|exact bJ _ _|exact bW|refine qT ?_|refine qC ?_ _)))).mono ?_);rintro e d0 ⟨rfl,c7⟩;(first|have cW:=Qb c7|skip);have bW:Bl W3 d0:=bt (by(repeat(with_reducible first|exact bJ _ _|exact bW|refine qT ?_|refine qC ?_ _))) c7)
     |(go_simp;go_at_call 134;(with_reducible refine(KR.o _ (by(repeat(with_reducible first|exact bJ _ _|exact bW|refine qT ?_|refine qC ?_ _)))).mono ?_);rintro e b8 ⟨⟨zz,rfl⟩,a4⟩;have bX:Bl W3 b8:=bt (by(repeat(with_reducible first|exact bJ _ _|exact bW|refine qT ?_|refine qC ?_ _))) a4;(first
        |(have cX:=bt cW a4;obtain⟨n6,k6,O,K⟩:=((Wm.start (R:=qP) _).bel cX).own.store Tryz.lawA Tryz.underWo (by unfold maxLen;decide) a7 (val:=ai zz) rfl;have HE:=ay (YE ((Wm.start W3).bel cX) bX (nR _) (uq a6) O K))
        |(obtain⟨n6,k6,O,K⟩:=((Wm.start (R:=qP) _).bel a4).own.store Tryz.lawA Tryz.underWo (by unfold maxLen;decide) a7 (val:=ai zz) rfl;have HE:=ay (YE ((Wm.start d0).bel a4) bX bW.size (uq a6) O K))
        |(obtain⟨n6,k6,O,K⟩:=(Wm.start (R:=qP) b8).own.store Tryz.lawA Tryz.underWo (by unfold maxLen;decide) a7 (val:=ai zz) rfl;have HE:=ay (YE (Wm.start b8) (qC bX _) bX.size (uq a6) O K))))
     |fail)
   all_goals
    clear k6 O K bX a4 KO KR HS a7
    go_wp2
    go_meet
    exact⟨_,_,rfl,HE⟩
  case rest=>
   obtain⟨bm,Dm,rfl,i5⟩:=hcut;generalize wc=W4 at *;have n7:Hh (Bl W3 W4/\W3.1.size<=bm/\Wm qP W4 bm [xM ow ka] Dm/\∀h,h∈[xM ow ka]↔jU ow ka cs 0 h):=ay ⟨i5.1,i5.2.1,i5.2.2,λh=>cI⟩;clear i5;go_wp2;go_loopw [14,60] (λu t wq=>∃(q bm:Nat) (ks:LL) (Dm:DataW Unit),q<=j/\t=ai q/\u=.map (some bm)/\Hh (Bl W3 wq/\W3.1.size<=bm/\Wm qP wq bm ks Dm/\∀h,h∈ks↔jU ow ka cs q h)) (λ_ t _=>j-(intOf t).toNat);exact⟨0,bm,_,_,nZ _,rfl,rfl,n7⟩;clear n7;obtain⟨q,bm,ks,Dm,hq,rfl,rfl,HM⟩:=hrel;generalize wr=W5 at *;by_cases n8:q<j
   .have i3:(q:Int)<j:=Oo;have k7:q<cs.length:=O1 HN.o
    have g7:=M.1.kg.step HM.1;have n9:=V.o.b0 g7;obtain⟨q7,q8,eb,f8⟩:=V.o.msgs g7;simp only[Value.slice.injEq]at eb;obtain⟨rfl,-,rfl⟩:=eb;rcases f8 with h0|⟨b1,o1,rfl,q9,h5⟩;omega;obtain⟨c1,n1,q1,c2,n2,q2,bj,g0,g1,g2,g3,a5⟩:=h5 q k7;unfold rgV at g0;go_upto_region 15 with fail;have f9:Bl W5 (W5.alloc (.cells #[.iface 68 (.agg #[]),.slice c1 n1 q1,.slice c2 n2 q2,.map (some bj)] 146)):=(bJ _ _).alloc (nR _) _;have k8:(W5.alloc (.cells #[.iface 68 (.agg #[]),.slice c1 n1 q1,.slice c2 n2 q2,.map (some bj)] 146)).1[W5.1.size]?=some (.cells #[.iface 68 (.agg #[]),.slice c1 n1 q1,.slice c2 n2 q2,.map (some bj)] 146 (0,0)):=dZ _ _;generalize (W5.alloc (.cells #[.iface 68 (.agg #[]),.slice c1 n1 q1,.slice c2 n2 q2,.map (some bj)] 146))=W6 at *;have g8:=bt HM.1 f9;have i8:=HM.2.2.1.bel f9;generalize W5.1.size=zc at *;have e0:=c9.o.below Oo g8;have i9:=M.1.kg.step g8;have d2:=V.o.b0 i9;obtain⟨B',i6,D',d3⟩:=a5.en;obtain⟨y0,o4⟩:=s9 q k7;obtain⟨⟨s',cc⟩,j0,l0⟩:=cC.1 (d3.all _ _ o4);have l0:s'=xM (cs.getD q zF).sh ka:=l0;subst l0;obtain⟨kc,Dc,l1,e7⟩:=d3.inner _ j0;have t3:=d3.ref _ j0;have o5:=n5 q Oo _ HM.2.2.1.nd λa ha=>(HM.o.2.2.2 a).1 ha;have o6:=q4.o q k7 _ kc l1.nd λa ha=>(e7 a).1 ha;have a7:keyOf Tryz.prog 137 (asV (xS (cs.getD q zF).sh fa))=some (kla (xM (cs.getD q zF).sh ka)):=by rw[g6.o];exact yP (uq a6)
    have KO:Hh (∀W,Bl W6 W->Cl 133 #[.agg #[ai (fa 0),ai (fa 1),ai (fa 2),ai (fa 3),ai (fa 4),ai (fa 5)],.slice c1 n1 q1] W λe w'=>e=.returned (asV (xS (cs.getD q zF).sh fa))/\Bl W w'):=ay λW I=>jq W fa _ (a5.sh.below (bt d2 I)) a5.ls.1 a5.i1;have KJ:=ay λW I=>qAH W pm bm cc ks kc Dm Dc (qF (bt g8 I) M.o.1.mb.cells.1) (i8.bel I) (l1.bel (bt d2 I)) (a5.hd.is.below (bt d2 I)) a5.ls.2 a5.i2 Oo Oo;have j1:Hh (∀W,Bl W6 W->En W B' bj (cs.getD q zF).Q i6 D'):=ay λW I=>d3.bel (bt d2 I);have HS:Hh (∀W,Bl W6 W->W.cell? (az zc 1)=some (.slice c1 n1 q1)/\W.cell? (az zc 2)=some (.slice c2 n2 q2)/\W.cell? (az zc 3)=some (.map (some bj))/\W.cell? (az za 0)=some (ai (fa 0))/\W.cell? (az za 1)=some (ai (fa 1))/\W.cell? (az za 2)=some (ai (fa 2))/\W.cell? (az za 3)=some (ai (fa 3))/\W.cell? (az za 4)=some (ai (fa 4))/\W.cell? (az za 5)=some (ai (fa 5))):=ay λW I=>by
     have e:=(I.block zc (dK.1 k8).1).trans k8;exact⟨by rw[fA _ _ _ _ _ _ e];rfl,by rw[fA _ _ _ _ _ _ e];rfl,by rw[fA _ _ _ _ _ _ e];rfl,(e0.below Oo I).cell 0 Oo,(e0.below Oo I).cell 1 Oo,(e0.below Oo I).cell 2 Oo,(e0.below Oo I).cell 3 Oo,(e0.below Oo I).cell 4 Oo,(e0.below Oo I).cell 5 Oo⟩
    have b0:Bl W6 W6.drew:=(bJ _ _).drew;have o7:=ay g8;have o8:Hh (∀h,jU ow ka cs (q+1) h↔∃x∈ks,∃y∈kc,h=xu (cs.getD q zF).hd x y):=ay λh=>by
     constructor;rintro⟨x,y,h1,h2,h3⟩;exact⟨x,(HM.o.2.2.2 x).2 h1,y,(e7 y).2 h2,h3⟩;rintro⟨x,h1,y,h2,h3⟩;exact⟨x,y,(HM.o.2.2.2 x).1 h1,(e7 y).1 h2,h3⟩
    clear a5 d3 l1 e7 i8 e0 i9 d2 f9 k8 g8 g0 g1 g2 g3 h5 n9 g7 HM o4 o5 o6;generalize cs.getD q zF=ch at *;go_region_held_law (λW=>W.cell? (az zc 1)=some (.slice c1 n1 q1)/\W.cell? (az zc 2)=some (.slice c2 n2 q2)/\W.cell? (az zc 3)=some (.map (some bj))/\W.cell? (az za 0)=some (ai (fa 0))/\W.cell? (az za 1)=some (ai (fa 1))/\W.cell? (az za 2)=some (ai (fa 2))/\W.cell? (az za 3)=some (ai (fa 3))/\W.cell? (az za 4)=some (ai (fa 4))/\W.cell? (az za 5)=some (ai (fa 5)))
     (first
      |with_reducible exact HS.o _ b0
      |with_reducible exact HS.o _ bW
      |with_reducible exact HS.o _ bX
      |fail)
     (first
      |(go_simp;go_at_call 133;(with_reducible refine(KO.o _ b0).mono ?_);rintro e d0 ⟨rfl,c7⟩;have bW:=bt b0 c7;obtain⟨vv,ps,t4,hvv⟩:=(j1.o _ bW).map.own.lookup Tryz.lawA Tryz.underEn (Tryz.zeroW _) (zd:=.lit (.int .i64 (-1))) (zp:=[]) rfl a7;rw[t3]at hvv;obtain rfl:=Zk hvv)
      |(go_simp;go_at_call 135;(with_reducible refine(KJ.o _ bW).mono ?_);rintro e b8 ⟨bo,l2,o9,rfl,w5,j2,j3,a4⟩;have bX:=bt bW a4)
      |fail)
    all_goals
     have HE:Hh (Bl W3 b8/\W3.1.size<=bo/\Wm qP b8 bo l2 o9/\∀h,h∈l2↔jU ow ka cs (q+1) h):=ay ⟨bt o7.o bX,by have:=o7.o.size;have:=bW.size;omega,j2,λh=>(j3 h).trans (o8.o h).symm⟩
     clear j2 j3 bX bW a4 HS KO KJ a7 j1 t4 hvv o8
     go_wp2
     go_roundw;exact⟨q+1,bo,l2,o9,Oo,Gg,rfl,HE⟩;exact Im
   have n8:q=j:=Oo;subst n8;have i3:¬((q:Int)<q):=Oo;go_upto_region 17 with fail;have d4:=HM.o.1;have d5:Gs w W5 S lo pm be (.slice ah sh.length kh) (.slice ao ow.length ko) v ow (hds cs q) (yG b sh ow rows cs i) es D:=⟨M.o.1.kg.step d4,M.o.1.mb.move (d4.block _ M.o.1.mb.cells.2.2.2.2.2),M.o.1.hd.move d4.size (λk hk _=>d4.block k hk) (xn M.o.1.hd.own M.o.1.mb),M.o.1.en.bel d4⟩;have p1:=M.o.2.below d4;have e2:=c9.o.below Oo d4;have r9:=V.o.zone;have w7:=V.o.inS pm V.o.spm;have w8:=V.o.inS be V.o.sbe;have hw3:=M.o.1.kg.size;have w9:=HM.o.2.1;have t9:=(qL V.o.ok).2.1;have p2:bm∉es.map Prod.snd:=λhm=>by
    obtain⟨e,he,e1⟩:=cC.1 hm;obtain⟨k3,D3,hw,_⟩:=M.o.1.en.inner e he;have:=hw.lt;omega
   have t5:=n5.o q (O1 HN.o) ks HM.o.2.2.1.nd λa ha=>(HM.o.2.2.2 a).1 ha;have KO:Hh (∀W,Bl W5 W->Cl 133 #[.agg #[ai (fa 0),ai (fa 1),ai (fa 2),ai (fa 3),ai (fa 4),ai (fa 5)],.slice ah sh.length kh] W λe w'=>e=.returned (asV (xS sh fa))/\Bl W w'):=ay λW I=>jq W fa sh (V.o.shr W (d5.kg.step I)) V.o.lsh.1 V.o.lsh.2;have KP:=ay λW I=>by
    have:=qDW W w.1.size be pm bm (yG b sh ow rows cs i) es D Dm (xM sh ka) ks (d5.en.bel I) (qF I d5.mb.cells.1) (HM.o.2.2.1.bel I) (uq a6) Oo p2 Oo Oo Oo (q5.o i m7 _) t5;rw[<-g6.o]at this;exact this
   have HS:Hh (∀W,Bl W5 W->W.cell? (az pm 1)=some (.slice ah sh.length kh)/\W.cell? (az pm 3)=some (.map (some be))/\W.cell? (az za 0)=some (ai (fa 0))/\W.cell? (az za 1)=some (ai (fa 1))/\W.cell? (az za 2)=some (ai (fa 2))/\W.cell? (az za 3)=some (ai (fa 3))/\W.cell? (az za 4)=some (ai (fa 4))/\W.cell? (az za 5)=some (ai (fa 5))):=ay λW I=>⟨qF I d5.mb.cells.2.1,qF I d5.mb.cells.2.2.2.1,(e2.below Oo I).cell 0 Oo,(e2.below Oo I).cell 1 Oo,(e2.below Oo I).cell 2 Oo,(e2.below Oo I).cell 3 Oo,(e2.below Oo I).cell 4 Oo,(e2.below Oo I).cell 5 Oo⟩;have HT:Hh (∀W W',Bl W5 W->Kg (Ent be es) W W'->W'.cell? (az pm 1)=some (.slice ah sh.length kh)/\W'.cell? (az pm 3)=some (.map (some be))/\W'.cell? (az za 0)=some (ai (fa 0))/\W'.cell? (az za 1)=some (ai (fa 1))/\W'.cell? (az za 2)=some (ai (fa 2))/\W'.cell? (az za 3)=some (ai (fa 3))/\W'.cell? (az za 4)=some (ai (fa 4))/\W'.cell? (az za 5)=some (ai (fa 5))):=ay λW W' I hk=>by
    obtain⟨s0,s1,s2,s3,s4,s5,s6,s7⟩:=HS.o W I;have d6:∀{p o:Nat} {u:Value},W.cell? (az p o)=some u->W'.cell? (az p o)=some u:=λ{p o u} hc=>(bF (w:=W) (a:=(az p o)) (hk.nomap (d5.en.bel I) (bL W _ hc) (jo hc))).trans hc;exact⟨d6 s0,d6 s1,d6 s2,d6 s3,d6 s4,d6 s5,d6 s6,d6 s7⟩
   have p3:=ay (And.intro d5 p1);have p4:=ay λh=>HM.o.2.2.2 h;have b0:Bl W5 W5.drew:=(bJ _ _).drew;clear d5 p1 e2 HM d4 p2;go_region_held_law (λW=>W.cell? (az pm 1)=some (.slice ah sh.length kh)/\W.cell? (az pm 3)=some (.map (some be))/\W.cell? (az za 0)=some (ai (fa 0))/\W.cell? (az za 1)=some (ai (fa 1))/\W.cell? (az za 2)=some (ai (fa 2))/\W.cell? (az za 3)=some (ai (fa 3))/\W.cell? (az za 4)=some (ai (fa 4))/\W.cell? (az za 5)=some (ai (fa 5)))
    (first
     |with_reducible exact HS.o _ b0
     |with_reducible exact HS.o _ bW
     |with_reducible exact HT.o _ _ bW d7
     |fail)
    (first
     |(go_simp;go_at_call 133;(with_reducible refine(KO.o _ b0).mono ?_);rintro e d0 ⟨rfl,c7⟩;have bW:=bt b0 c7)
     |(go_simp;go_at_call 136;(with_reducible refine(KP.o _ bW).mono ?_);rintro e b8 ⟨rfl,⟨i6,⟨D',g9⟩,v6⟩,d7⟩)
     |fail)
   all_goals
    have HE:Hh (Gs w b8 S lo pm be (.slice ah sh.length kh) (.slice ao ow.length ko) v ow (hds cs q) (yG b sh ow rows cs (i+1)) i6 D'/\TX b8 w.1.size (.slice a0 b.length k0) (sZ b3 o3 rows.length k1) (.slice a2 ws.length k2)):=ay (by
     obtain⟨y1,y2⟩:=p3.o;have p5:=y1.en.bel bW;have nm:∀k,k<d0.1.size->(∀x y,d0.1[k]?≠some (.map x y))->b8.1[k]?=d0.1[k]?:=λk h1 h2=>d7.nomap p5 h1 h2;have e4:=y1.mb.move (bW.block _ y1.mb.cells.2.2.2.2.2);have e5:=y2.below bW;refine⟨⟨(y1.kg.step bW).ent d7 V.o.sbe λe he=>y1.en.low e he,e4.move (nm pm e4.cells.2.2.2.2.2 (jo e4.cells.1)),(y1.hd.move bW.size (λk hk _=>bW.block k hk) (xn y1.hd.own y1.mb)).keep d7.size nm,g9.congr λs a=>?_⟩,⟨(nm _ e5.lt (jo e5.c0)).trans e5.blk⟩⟩;rw[t2.o];have hk:=p4.o a;rw[HN.o]at hk;exact⟨λh=>h.imp id λh=>⟨h.1,hk.2 h.2⟩,λh=>h.imp id λh=>⟨h.1,hk.1 h.2⟩⟩)
    clear g9 d7 bW HS HT KO KP p3 p4
    go_wp2
    go_roundw;exact⟨i+1,i6,D',Oo,Gg,Oo,HE⟩;exact Im
 have e8:i=rows.length:=Oo;have i2:¬((i:Int)<(rows.length:Int)):=Oo;have HE:=ay (by
  have h:=HX.o.1;rw[e8]at h;exact h)
 clear HX;go_wp2;refine bodyPost_end (results_none rfl _ _ _) rfl ⟨rfl,v,es,Oo,D,HE.o⟩
end
end Go.Proofs.YtnpgdnaeghilhaaGreat
namespace Go.Proofs.YtnpgdnaeghilhaaGreat
open Go.Proofs.Tryz Go.RowKit
variable {v:Int}{X b l ps:LI}{bt:List TbV}{B c d i j O g:Nat}{W w0 w W' I W3:World}{F G:Int->Int}{cs:List Ch}{Ans:(Int->Int)->Prop}{U:Nat->Int->Prop}
def ky(X:LI)(F:Int->Int):LI:=(List.range 6).map λi:Nat=>if (i:Int)∈X then F i else 0
theorem Y6(h:i<6):(ky X F).getD i 0=if (i:Int)∈X then F i else 0:=by
 unfold ky;rw[gdR (by simp;exact h),fB,List.getElem_range]
theorem Zm(h:∀v∈l,v∈b):xM l (ky b F)=ky l F:=by
 unfold xM;refine cV λi hi=>?_;have hi:=cJ.1 hi;unfold xS xR;by_cases e:(i:Int)∈l;rw[fE e,fE e];show(ky b F).getD i 0=_;rw[Y6 hi,fE (h _ e)];rw[fF e,fF e]
theorem qCn{K}(M:∀v∈l,F v=G v)(O:∀v∈X,v∉l->F v=K v):xu l (ky X K) (ky l G)=ky (X++l) F:=by
 unfold xu;refine cV λi hi=>?_;have hi:=cJ.1 hi;unfold xR;by_cases e:(i:Int)∈l;rw[fE e,fE (dX _ e),M _ e];show(ky l G).getD i 0=_;rw[Y6 hi,fE e];rw[fF e];show(ky X K).getD i 0=_;rw[Y6 hi];by_cases I:(i:Int)∈X;rw[fE I,fE (dW _ I),O _ I e];rw[fF I,fF λh=>(cF.1 h).elim I e]
theorem qIw(h:ky l F=ky l G)(hv:v∈l)(K:0<=v/\v<6):F v=G v:=by
 have e:=congrArg (λx=>x.getD v.toNat 0) h;have I:((v.toNat:Nat):Int)=v:=Oo;simp only[Y6 (show v.toNat<6 by omega),I,fE hv]at e;exact e
theorem kL(h:∀v∈l,F v=G v):ky l F=ky l G:=by
 unfold ky;refine cV λi _=>?_;by_cases e:(i:Int)∈l;rw[fE e,fE e,h _ e];rw[fF e,fF e]
structure ChM(Ans:(Int->Int)->Prop)(b:LI)(cs:List Ch)(U:Nat->Int->Prop):Prop where
 q:∀j,j<cs.length->∀s h,(cs.getD j zF).Q s h↔∃F,Ans F/\s=ky (cs.getD j zF).sh F/\h=ky (cs.getD j zF).hd F
 sh:∀j,j<cs.length->∀v∈(cs.getD j zF).sh,v∈b/\0<=v/\v<6
 hd:∀j,j<cs.length->∀v∈(cs.getD j zF).hd,U j v
 out:∀j,j<cs.length->∀v,U j v->(v∈b\/∃i,i<j/\U i v)->v∈(cs.getD j zF).sh
 glue:∀j,j<cs.length->∀F G H,Ans F->Ans G->(∀v∈(cs.getD j zF).sh,G v=F v)->(∀v,U j v->H v=G v)->(∀v,¬U j v->H v=F v)->Ans H
theorem qCo(M:j<=cs.length):v∈hds cs j↔∃i,i<j/\v∈(cs.getD i zF).hd:=by
 induction j with
 |zero=>
  constructor;intro h;cases h
  rintro⟨i,h,_⟩;omega
 |succ j ih=>
  rw[Qq Oo,cF,ih Oo];constructor
  .rintro (⟨i,K,I⟩|h);exact⟨i,Oo,I⟩;exact⟨j,Oo,h⟩
  rintro⟨i,K,I⟩;by_cases e:i=j;subst e;exact Or.inr I;exact Or.inl ⟨i,Oo,I⟩
theorem QX{ow}(h:ChM Ans b cs U)(how:∀v∈ow,v∈b){M}(h0:Ans M):∀j,j<=cs.length->∀x,jU ow (ky b M) cs j x↔∃F,Ans F/\(∀v∈b,F v=M v)/\x=ky (ow++hds cs j) F
 |0,_,x=>by
  show x=xM ow (ky b M)↔_;rw[Zm how];constructor;rintro rfl;exact⟨M,h0,λ_ _=>rfl,by unfold hds;simp⟩;rintro⟨F,-,h2,rfl⟩;unfold hds;simp only[List.take_zero,List.flatMap_nil,dU];exact kL λv hv=>h2 v (how v hv)
 |j+1,hj,x=>by
  have I:j<cs.length:=Oo;have K:=λv hv=>(h.sh j I v hv).1;show(∃y z,jU ow (ky b M) cs j y/\(cs.getD j zF).Q (xM (cs.getD j zF).sh (ky b M)) z/\x=xu (cs.getD j zF).hd y z)↔_;rw[Zm K,Qq I,<-dN];constructor
  .rintro⟨y,z,hy,hz,rfl⟩;obtain⟨V,g1,g2,rfl⟩:=(QX h how h0 j Oo y).1 hy;obtain⟨G,g3,g4,rfl⟩:=(h.q j I _ _).1 hz;have O:=λv hv=>((λv hv=>(qIw g4 hv (h.sh j I v hv).2).symm) v hv).trans (g2 v (K v hv)).symm;obtain⟨H,e1,e2⟩:∃H:Int->Int,(∀v,U j v->H v=G v)/\∀v,¬U j v->H v=V v:=by
    refine⟨λv=>@ite _ _ (Classical.propDecidable _) _ _,λv hv=>fE hv,λv hv=>fF hv⟩
   have hold:∀v,(v∈b\/∃i,i<j/\U i v)->H v=V v:=λv hv=>by
    by_cases hu:U j v;rw[e1 v hu];exact O v (h.out j I v hu hv);exact e2 v hu
   refine⟨H,h.glue j I V G H g1 g3 O e1 e2,λv hv=>(hold v (Or.inl hv)).trans (g2 v hv),?_⟩;refine qCn (λv hv=>e1 v (h.hd j I v hv)) λv hv _=>hold v ?_;rcases cF.1 hv with hv|hv;exact Or.inl (how v hv);have⟨i,h1,h2⟩:=(qCo Oo).1 hv;exact Or.inr ⟨i,h1,h.hd i Oo v h2⟩
  rintro⟨F,g1,g2,rfl⟩;refine⟨ky _ F,ky _ F,(QX h how h0 j Oo _).2 ⟨F,g1,g2,rfl⟩,(h.q j I _ _).2 ⟨F,g1,kL λv hv=>(g2 v (K v hv)).symm,rfl⟩,?_⟩;exact(qCn (λ_ _=>rfl) λ_ _ _=>rfl).symm
theorem QY(h:b.Pairwise (·< ·))F:xx b (b.map F)=ky b F:=by
 unfold xx ky;refine cV λi _=>?_;unfold xS xR;by_cases e:(i:Int)∈b;rw[fE e,fE e];exact Qi h F e;rw[fF e,fF e]
theorem qHU{sh ow rows}(h:ChM Ans b cs U)(hb:b.Pairwise (·< ·))(K:∀r,r∈rows↔∃F,Ans F/\b.map F=r)(how:∀v∈ow,v∈b)(I:∀v∈sh,v∈b)s x:yG b sh ow rows cs rows.length s x↔∃F,Ans F/\s=ky sh F/\x=ky (ow++hds cs cs.length) F:=by
 constructor;rintro⟨i,hi,rfl,M⟩;have⟨V,g0,O⟩:=(K _).1 (qz (d:=[]) hi);rw[<-O,QY hb]at M |-;obtain⟨F,g1,g2,rfl⟩:=(QX h how g0 _ eA x).1 M;exact⟨F,g1,by rw[Zm I];exact kL λv hv=>(g2 v (I v hv)).symm,rfl⟩;rintro⟨F,g0,rfl,rfl⟩;have⟨i,hi,e⟩:=gO ((K _).2 ⟨F,g0,rfl⟩);refine⟨i,hi,?_,?_⟩;rw[gdR hi,e,QY hb,Zm I];rw[gdR hi,e,QY hb];exact(QX h how g0 _ eA _).2 ⟨F,g0,λ_ _=>rfl,rfl⟩
theorem kq{α β:Type}{f:α->β}:∀{l:List α} {ks:List β},ks.Nodup->(∀k∈ks,∃a∈l,k=f a)->ks.length<=l.length
 |[],ks,_,h=>by
  cases ks with
  |nil=>exact eA
  |cons k ks=>obtain⟨a,V,-⟩:=h k (cY ..);cases V
 |a::l,ks,hn,h=>by
  by_cases e:f a∈ks
  .obtain⟨u,v,rfl⟩:=List.append_of_mem e;have O:=(List.perm_middle.nodup_iff).1 hn;have:=kq (l:=l) (List.nodup_cons.1 O).2 λk I=>by
    have⟨b,hb,K⟩:=h k (by
     rcases cF.1 I with M|M;exact dW _ M;exact dX _ (mC _ M))
    rcases cH.1 hb with rfl|hb;exact absurd (K ▸ I) (List.nodup_cons.1 O).1;exact⟨b,hb,K⟩
   rw[lA]at this |-;simp only[cQ];omega
  have:=kq (l:=l) hn λk I=>by
   have⟨b,hb,K⟩:=h k I;rcases cH.1 hb with rfl|hb;exact absurd (K ▸ I) e;exact⟨b,hb,K⟩
  simp only[cQ];omega
section
variable {n:Nat} {p:NN} {b:Nat->LI}
def yO(p:NN):Nat->NN
 |0,j=>j
 |m+1,j=>yO p m (p j)
def Sbt(p:NN)(n c j:Nat):Prop:=j<n/\∃m,yO p m j=c/\∀i,i<m->yO p i j<n
theorem Sbt.self(h:c<n):Sbt p n c c:=⟨h,0,rfl,λi hi=>Oo⟩
theorem Sbt.up(h:Sbt p n c j)(K:j≠c)(O:c<n):Sbt p n c (p j):=by
 have⟨V,m,I,M⟩:=h;cases m with
 |zero=>exact absurd I K
 |succ m=>
  refine⟨?_,m,I,λi hi=>M (i+1) Oo⟩;cases m with
  |zero=>
   have I:p j=c:=I;omega
  |succ m=>exact M 1 Oo
theorem Sbt.down(h:Sbt p n c (p j))(I:j<n):Sbt p n c j:=by
 obtain⟨-,m,K,M⟩:=h;refine⟨I,m+1,K,λi hi=>?_⟩;cases i with
 |zero=>exact I
 |succ i=>exact M i Oo
theorem YF(M:∀i,i<n->i<p i/\p i<=n)(O:∀j,j<n->∀l,j<l->l<=n->∀v,v∈b j->v∈b l->v∈b (p j)){c}(hc:c<n){v}:∀m j l,n+n-j-l<=m->Sbt p n c j->l<=n->¬Sbt p n c l->v∈b j->v∈b l->v∈b c/\v∈b (p c)
 |0,j,l,hm,hj,hl,hn,h1,h2=>O1 hj.1
 |m+1,j,l,hm,hj,hl,hn,h1,h2=>by
  have K:=hj.1;rcases Nat.lt_trichotomy j l with e|e|e
  .have V:=O j K l e hl v h1 h2;by_cases ec:j=c;subst ec;exact⟨h1,V⟩;have:=M j K;exact YF M O hc m (p j) l Oo (hj.up ec hc) hl hn V h2
  subst e;exact absurd hj hn;have I:l<n:=Oo;have:=M l I;exact YF M O hc m j (p l) Oo hj this.2 (λh=>hn (h.down I)) h1 (O l I j e Oo v h2 h1)
def Un(p:NN)(n:Nat)(b:Nat->LI)(c:Nat)(v:Int):Prop:=∃j,Sbt p n c j/\v∈b j
theorem qAI(I:∀i,i<n->i<p i/\p i<=n)(K:∀j,j<n->∀l,j<l->l<=n->∀v,v∈b j->v∈b l->v∈b (p j)){l}(M:c<n)(hl:l<=n)(O:¬Sbt p n c l)(V:Un p n b c v)(hv:v∈b l):v∈shr (b c) (b (p c)):=by
 have⟨j,h1,h2⟩:=V;have⟨h3,h4⟩:=YF I K M _ j l eA h1 hl O h2 hv;exact cK.2 ⟨h3,fD h4⟩
theorem Vy(I:∀i,i<n->i<p i/\p i<=n):∀m j,(∀i,i<m->yO p i j<n)->j<=yO p m j
 |0,j,_=>eA
 |m+1,j,h=>by
  have:=Vy I m (p j) λi hi=>h (i+1) Oo;show j<=yO p m (p j);have:=I j (h 0 Oo);omega
theorem Sbt.le(I:∀i,i<n->i<p i/\p i<=n)(h:Sbt p n c j):j<=c:=by
 obtain⟨-,m,K,M⟩:=h;rw[<-K];exact Vy I m j M
theorem qHV(O:∀i,i<n->i<p i/\p i<=n)(V:∀j,j<n->∀l,j<l->l<=n->∀v,v∈b j->v∈b l->v∈b (p j)){R:Nat->LL}{Ans:(Int->Int)->Prop}(I:∀F,(∀l,l<=n->(b l).map F∈R l)↔Ans F)(hc:c<n){F G H}(hF:Ans F)(hG:Ans G)(hs:∀v∈shr (b c) (b (p c)),G v=F v)(M:∀v,Un p n b c v->H v=G v)(h2:∀v,¬Un p n b c v->H v=F v):Ans H:=by
 refine(I H).1 λl hl=>?_;by_cases e:Sbt p n c l;rw[cV (g:=G) λv hv=>M v ⟨l,e,hv⟩];exact(I G).2 hG l hl;rw[cV (g:=F) λv hv=>?_];exact(I F).2 hF l hl;by_cases K:Un p n b c v;rw[M v K];exact hs v (qAI O V hc hl e K hv);exact h2 v K
end
section
variable {n:Nat} {p:NN} {b:Nat->LI}
theorem Qr:∀m k j,yO p (m+k) j=yO p k (yO p m j)
 |0,k,j=>by rw[cU];rfl
 |m+1,k,j=>by rw[show m+1+k=(m+k)+1 by omega];exact Qr m k (p j)
theorem Sbt.one(hp:∀i,i<n->i<p i/\p i<=n)(hc:Sbt p n c j)(hd:Sbt p n d j)(K:c<n)(I:d<n)(e:p c=p d):c=d:=by
 have key:∀{c d:Nat} (m k:Nat),yO p m j=c->yO p (m+k) j=d->(∀i,i<m+k->yO p i j<n)->c<n->d<n->p c=p d->c=d:=λ{c d} m k O M V K I e=>by
  rw[Qr,O]at M;cases k with
  |zero=>exact M
  |succ k=>
   have M:yO p k (p c)=d:=M;have h4:=Vy hp k (p c) λi hi=>by
    have:=V (m+(i+1)) Oo;rw[Qr,O]at this;exact this
   have:=hp d I;omega
 obtain⟨-,m,O,M⟩:=hc;obtain⟨-,k,V,h4⟩:=hd;rcases Nat.le_total m k with hle|hle;exact key m (k-m) O (by rw[show m+(k-m)=k by omega];exact V) (by rw[show m+(k-m)=k by omega];exact h4) K I e;exact(key k (m-k) V (by rw[show k+(m-k)=m by omega];exact O) (by rw[show k+(m-k)=m by omega];exact M) I K e.symm).symm
def kids(p:NN)(i:Nat):LN:=(List.range i).filter λc=>decide (p c=i)
theorem ui:c∈kids p i↔c<i/\p c=i:=by
 unfold kids;rw[cK,cJ,dE]
def Y7(Ans:(Int->Int)->Prop)(p:NN)(b:Nat->LI)(hd:Nat->LI)(c:Nat):Ch:=⟨shr (b c) (b (p c)),hd c,λs h=>∃F,Ans F/\s=ky (shr (b c) (b (p c))) F/\h=ky (hd c) F⟩
theorem qIx(M:∀i,i<n->i<p i/\p i<=n)(V:∀j,j<n->∀l,j<l->l<=n->∀v,v∈b j->v∈b l->v∈b (p j)){R:Nat->LL}{Ans}(hA:∀F,(∀l,l<=n->(b l).map F∈R l)↔Ans F){hd}(a3:∀c,c<n->∀v∈hd c,Un p n b c v)(h6:∀c,c<n->∀v∈b c,0<=v/\v<6)(hi:i<=n):ChM Ans (b i) ((kids p i).map (Y7 Ans p b hd)) λj v=>Un p n b ((kids p i).getD j 0) v:=by
 have at_:∀j,j<((kids p i).map (Y7 Ans p b hd)).length->((kids p i).map (Y7 Ans p b hd)).getD j zF=Y7 Ans p b hd ((kids p i).getD j 0)/\(kids p i).getD j 0<n/\p ((kids p i).getD j 0)=i/\(kids p i).getD j 0<i:=λj I=>by
  have O:j<(kids p i).length:=by rw[lM]at I;exact I
  have hm:=ui.1 (qz (d:=0) O);exact⟨by rw[gdR I,fB,gdR O],Oo,hm.2,hm.1⟩
 refine⟨λj I s h=>?_,λj I v hv=>?_,λj I v hv=>?_,λj I v hu hv=>?_,λj I F G H hF hG hs h1 h2=>?_⟩;rw[(at_ j I).1];exact Iff.rfl;obtain⟨e,K,e2,-⟩:=at_ j I;rw[e]at hv;have hv:v∈shr (b ((kids p i).getD j 0)) (b (p ((kids p i).getD j 0))):=hv;rw[e2]at hv;exact⟨uA hv,h6 _ K v (zu hv)⟩;obtain⟨e,K,-,-⟩:=at_ j I;rw[e]at hv;exact a3 _ K v hv
 .have⟨e,K,e2,e3⟩:=at_ j I;rw[e];show v∈shr (b ((kids p i).getD j 0)) (b (p ((kids p i).getD j 0)));rcases hv with hv|⟨k,hk,hv⟩;exact qAI M V K hi (λh=>O1 (h.le M)) hu hv;obtain⟨-,f1,f2,f3⟩:=at_ k Oo;have⟨l,g1,g2⟩:=hv;refine qAI M V K (Nat.le_of_lt g1.1) (λh=>?_) hu g2;have e4:=h.one M g1 K f1 (by rw[e2,f2]);rw[lM]at I;rw[gdR I,gdR (show k<(kids p i).length by omega)]at e4;have:=(List.getElem_inj (List.nodup_range.filter _)).1 e4;omega
 obtain⟨e,K,-,-⟩:=at_ j I;rw[e]at hs;exact qHV M V hA K hF hG hs h1 h2
end
section
variable {n:Nat} {p:NN} {b:Nat->LI} {ow:Nat->LI}
def hdF(ow:Nat->LI)(p:NN):Nat->Nat->LI
 |0,_=>[]
 |f+1,i=>ow i++(kids p i).flatMap (hdF ow p f)
def hdT(ow:Nat->LI)(p:NN)(i:Nat):LI:=hdF ow p (i+1) i
theorem uj{α β:Type}{f g:α->List β}:∀{l:List α},(∀x∈l,f x=g x)->l.flatMap f=l.flatMap g
 |[],_=>rfl
 |a::l,h=>by rw[dS,dS,h a (cY ..),uj λx I=>h x (mC _ I)]
theorem Qs:∀f i,i<f->hdF ow p f i=hdT ow p i
 |f+1,i,h=>by
  unfold hdT;show ow i++_=ow i++_;congr 1;refine uj λc I=>?_;have I:=(ui.1 I).1;rw[Qs f c Oo];rcases dL i f with e|e;exact(Qs i c I).symm;rw[show i=f by omega,Qs f c Oo]
theorem kM i:hdT ow p i=ow i++(kids p i).flatMap (hdT ow p):=by
 show ow i++_=_;congr 1;exact uj λc I=>Qs i c (ui.1 I).1
theorem U2 m j:yO p (m+1) j=p (yO p m j):=Qr m 1 j
theorem Sbt.step(h:Sbt p n d j)(hd:d<n)(e:p d=c):Sbt p n c j:=by
 have⟨K,m,I,M⟩:=h;refine⟨K,m+1,by rw[U2,I,e],λi hi=>?_⟩;by_cases O:i=m;subst O;rw[I];exact hd;exact M i Oo
theorem qIy(I:∀c,∀v∈ow c,v∈b c):∀c,c<n->∀v∈hdT ow p c,Un p n b c v:=λc=>by
 induction c using Nat.strongRecOn with
 |_ c K=>
  intro M v hv;rw[kM,cF]at hv;rcases hv with hv|hv;exact⟨c,Sbt.self M,I c v hv⟩;have⟨d,hd,hv⟩:=List.mem_flatMap.1 hv;have⟨O,V⟩:=ui.1 hd;have⟨j,h3,h4⟩:=K d O Oo v hv;exact⟨j,h3.step Oo V,h4⟩
theorem qCp(I:∀i,i<n->i<p i/\p i<=n){v}:∀m j,(∀i,i<m->yO p i j<n)->v∈ow j->v∈hdT ow p (yO p m j)
 |0,j,_,hv=>by rw[kM];exact dW _ hv
 |m+1,j,h,hv=>by
  rw[kM,U2];exact dX _ (List.mem_flatMap.2 ⟨_,ui.2 ⟨(I _ (h m Oo)).1,rfl⟩,qCp I m j (λi hi=>h i Oo) hv⟩)
theorem qEe(I:∀i,i<n->i<p i/\p i<=n):∀k j,n-j<=k->j<=n->∃m,yO p m j=n/\∀i,i<m->yO p i j<n
 |0,j,h1,h2=>⟨0,show j=n by omega,λi hi=>Oo⟩
 |k+1,j,h1,h2=>by
  rcases dL j n with e|e
  .have:=I j e;have⟨m,K,M⟩:=qEe I k (p j) Oo this.2;refine⟨m+1,K,λi hi=>?_⟩;cases i with
   |zero=>exact e
   |succ i=>exact M i Oo
  exact⟨0,show j=n by omega,λi hi=>Oo⟩
theorem qHW(I:∀i,i<n->i<p i/\p i<=n)(K:j<=n)(hv:v∈ow j):v∈hdT ow p n:=by
 have⟨m,M,O⟩:=qEe I _ j eA K;rw[<-M];exact qCp I m j O hv
end
open Go.Maps
theorem Tryz.infoMg:(Tryz.prog.info? 146).map (λi=>(i.zero,i.size,i.bytes))=some (some (.agg #[.nilIface,sn,sn,.map none]),4,72):=Kl
structure Mg where
 a1:OA
 n1:Nat
 k1:Nat
 a2:OA
 n2:Nat
 k2:Nat
 be:Nat
 ch:Ch
def mcl(e:Mg):LV:=[rgV,.slice e.a1 e.n1 e.k1,.slice e.a2 e.n2 e.k2,.map (some e.be)]
def zZ:Mg:=⟨none,0,0,none,0,0,0,zF⟩
structure MsM(w W:World)(v:Value)(es:List Mg):Prop where
 own:W.ownsRow w.1.size 146 4 v es.length (es.flatMap mcl)
 each:∀e∈es,ChA w (.slice e.a1 e.n1 e.k1) (.slice e.a2 e.n2 e.k2) e.be e.ch
 bel:Bl w W
theorem YC:∀{es:List Mg} {i:Nat},i<es.length->(es.flatMap mcl)[i*4]?=some rgV/\(es.flatMap mcl)[i*4+1]?=some (.slice (es.getD i zZ).a1 (es.getD i zZ).n1 (es.getD i zZ).k1)/\(es.flatMap mcl)[i*4+2]?=some (.slice (es.getD i zZ).a2 (es.getD i zZ).n2 (es.getD i zZ).k2)/\(es.flatMap mcl)[i*4+3]?=some (.map (some (es.getD i zZ).be))
 |e::es,0,_=>⟨rfl,rfl,rfl,rfl⟩
 |e::es,i+1,h=>by
  rw[show(i+1)*4=i*4+1+1+1+1 by omega];exact YC (es:=es) (i:=i) (by simpa using h)
theorem MsM.is{lo v es}(h:MsM w W v es)(K:lo<=w.1.size)(O:∀e∈es,ChA w0 (.slice e.a1 e.n1 e.k1) (.slice e.a2 e.n2 e.k2) e.be e.ch):MsS w0 W lo v (es.map Mg.ch):=by
 rcases h.own.2 with ⟨rfl,M⟩|⟨g,cap,cur,rfl,hb',V,M,-,-,ht⟩;exact⟨none,0,by rw[lM,M],Or.inl (by rw[lM];exact M)⟩;refine⟨_,cap,by rw[lM],Or.inr ⟨g,0,rfl,bM K hb',λj I=>?_⟩⟩;rw[lM]at I;obtain⟨f0,f1,f2,f3⟩:=YC I;have ec:(es.map Mg.ch).getD j zF=(es.getD j zZ).ch:=by rw[gdR (by rw[lM];exact I),fB,gdR I]
 rw[cU,ec];have cc:∀{p:Nat} {u:Value},p<es.length*4->(es.flatMap mcl)[p]?=some u->W.cell? (az g p)=some u:=λ{p u} hp hu=>by
  rw[fA _ _ _ _ _ _ V,<-hu,<-ht,cL Oo,dY]
 exact⟨_,_,_,_,_,_,_,cc Oo f0,cc Oo f1,cc Oo f2,cc Oo f3,O _ (qz (d:=zZ) I)⟩
theorem U0{x y z u t}:∀j q,[x,y,z,u][j]?=some q->(w.alloc (.cells #[x,y,z,u] t)).cell? (((az w.1.size 0):Addr).add j)=some q:=World.news_of_block (dZ w _)
def yN(ps:LI)(i:Int)(es:List Mg)(n:Nat):List Mg:=((List.range n).filter λj=>decide (ps.getD j 0=i)).map λj=>es.getD j zZ
theorem qEc ps i es n:yN ps i es (n+1)=if ps.getD n 0=i then yN ps i es n++[es.getD n zZ] else yN ps i es n:=by
 unfold yN;rw[dQ,cZ,mA];by_cases e:ps.getD n 0=i;rw[fE e,List.filter_cons_of_pos (by exact fD e)];rfl;rw[fF e,List.filter_cons_of_neg (by simpa using e),List.filter_nil,List.map_nil,dU]
def MgS(w:World)(v:Value)(es:List Mg):Prop:=∃a cap,v=.slice a es.length cap/\(es.length=0\/∃b o,a=some (az b o)/\∀j,j<es.length->w.cell? (az b (o+j*4))=some rgV/\w.cell? (az b (o+j*4+1))=some (.slice (es.getD j zZ).a1 (es.getD j zZ).n1 (es.getD j zZ).k1)/\w.cell? (az b (o+j*4+2))=some (.slice (es.getD j zZ).a2 (es.getD j zZ).n2 (es.getD j zZ).k2)/\w.cell? (az b (o+j*4+3))=some (.map (some (es.getD j zZ).be))/\ChA w (.slice (es.getD j zZ).a1 (es.getD j zZ).n1 (es.getD j zZ).k1) (.slice (es.getD j zZ).a2 (es.getD j zZ).n2 (es.getD j zZ).k2) (es.getD j zZ).be (es.getD j zZ).ch)
theorem below_calls w{p0 p2:OA}{n0 n2 c0 c2 vp vs}ps es{i}(hp:IS w vp ps)(hs:MgS w vs es)(hlen:es.length<=ps.length)(hn:es.length<=1000):
 Cl 96 #[.agg #[.slice p0 n0 c0,vp,.slice p2 n2 c2],ai i,vs] w λe w'=>∃v,e=.returned v/\MsM w w' v (yN ps i es es.length)/\Bl w w':=by
 obtain⟨iR,hi,b9,c7,c8⟩:=aX Tryz.infoMg;obtain⟨ap,kp,rfl,a6⟩:=hp;obtain⟨e0,ks,rfl,a5⟩:=hs;obtain⟨n,a7⟩:=Ex es.length;rw[<-a7]at a5 hn hlen |-;obtain⟨W1,a4⟩:=Ex (w.alloc (.cells #[.slice p0 n0 c0,.slice ap ps.length kp,.slice p2 n2 c2] 93))
 have b7:Hh (MsM w W1 sn (yN ps i es 0)/\W1.1[w.1.size]?=some (.cells #[.slice p0 n0 c0,.slice ap ps.length kp,.slice p2 n2 c2] 93 (0,0))):=ay ⟨⟨eK,λe he=>(by cases he),by rw[a4];exact(bJ _ _).alloc (nR _) _⟩,by rw[a4];exact eO⟩;have HP:=ay a6;have HC:=ay a5;have HL:Hh (∀j,(yN ps i es j).length<=j):=ay λj=>by
  unfold yN;rw[lM];exact bM (dH _ _) (by rw[List.length_range];exact eA)
 clear a6 a5 a7;go_enter func96,ntmps96;go_upto_region 1 with fail;rw[<-a4];clear a4;go_wp2;go_loopw [7,12] (λv t wr=>∃j:Nat,j<=n/\t=ai j/\Hh (MsM w wr v (yN ps i es j)/\wr.1[w.1.size]?=some (.cells #[.slice p0 n0 c0,.slice ap ps.length kp,.slice p2 n2 c2] 93 (0,0)))) (λ_ t _=>n-(intOf t).toNat);exact⟨0,eC,rfl,b7⟩;clear b7;obtain⟨j,hj,rfl,HX⟩:=hrel;by_cases c9:j<n
 .have i1:=aV c9;have i2:(j:Int)<(ps.length:Int):=Oo;rcases HC.o with h0|⟨b1,o1,rfl,hc1⟩;omega;rcases HP.o with h0|⟨b2,o2,rfl,d4⟩;omega;obtain⟨g0,g1,g2,g3,d5⟩:=hc1 j c9;have K:=HX.1.bel;replace g0:=qF K g0;replace g1:=qF K g1;replace g2:=qF K g2;replace g3:=qF K g3;unfold rgV at g0;have hsu:=qEc ps i es j;have d7:=d4 j Oo;generalize hmg:es.getD j zZ=mg at *;generalize ps.getD j 0=x at *;have e1:=qF K d7;have t1:wr.cell? (az w.1.size 1)=some (sZ b2 o2 ps.length kp):=by rw[eI HX.o.2];rfl
  have e2:=HL j;go_upto_region 5 with fail;have M:Bl wr (wr.alloc (.cells #[.iface 68 (.agg #[]),.slice mg.a1 mg.n1 mg.k1,.slice mg.a2 mg.n2 mg.k2,.map (some mg.be)] 146)):=aK;have O:(wr.alloc (.cells #[.iface 68 (.agg #[]),.slice mg.a1 mg.n1 mg.k1,.slice mg.a2 mg.n2 mg.k2,.map (some mg.be)] 146)).1[wr.1.size]?=some (.cells #[.iface 68 (.agg #[]),.slice mg.a1 mg.n1 mg.k1,.slice mg.a2 mg.n2 mg.k2,.map (some mg.be)] 146 (0,0)):=eO;have V:Hh (MsM w (wr.alloc (.cells #[.iface 68 (.agg #[]),.slice mg.a1 mg.n1 mg.k1,.slice mg.a2 mg.n2 mg.k2,.map (some mg.be)] 146)) u7 (yN ps i es j)/\(wr.alloc (.cells #[.iface 68 (.agg #[]),.slice mg.a1 mg.n1 mg.k1,.slice mg.a2 mg.n2 mg.k2,.map (some mg.be)] 146)).1[w.1.size]?=some (.cells #[.slice p0 n0 c0,sZ b2 o2 ps.length kp,.slice p2 n2 c2] 93 (0,0))):=ay ⟨⟨qB HX.1.own M,HX.1.each,bt K M⟩,(M.block _ (dK.1 HX.2).1).trans HX.2⟩;replace e1:=qF M e1;replace t1:=qF M t1;generalize (wr.alloc (.cells #[.iface 68 (.agg #[]),.slice mg.a1 mg.n1 mg.k1,.slice mg.a2 mg.n2 mg.k2,.map (some mg.be)] 146))=W2 at *;generalize wr.1.size=z1 at *;have d0:W2.cell? (az z1 0)=some (.iface 68 (.agg #[])):=by rw[eI O];rfl
  have d1:W2.cell? (az z1 1)=some (.slice mg.a1 mg.n1 mg.k1):=by rw[eI O];rfl
  have d2:W2.cell? (az z1 2)=some (.slice mg.a2 mg.n2 mg.k2):=by rw[eI O];rfl
  have d3:W2.cell? (az z1 3)=some (.map (some mg.be)):=by rw[eI O];rfl
  have HO:=V.1.own;have hsz:=V.1.bel.size;clear O M HX K g0 g1 g2 g3;by_cases hx:x=i
  .subst hx;rw[fE rfl]at hsu;have b8:=ay hsu;clear hsu;go_wp2_with (first
    |(at_builtin;refine wpList_append_lies _ rfl _ _ 142 rfl w.1.size 146 iR (.agg #[.nilIface,sn,sn,.map none]) 4 72 underlying142 hi b9 c7 c8 rfl Dd u7 (yN ps x es j).length ((yN ps x es j).flatMap mcl) rfl (HO.alloc _) (az _ 0) 1 1 [.iface 68 (.agg #[]),.slice mg.a1 mg.n1 mg.k1,.slice mg.a2 mg.n2 mg.k2,.map (some mg.be)] rfl rfl (U0) (λu hu=>by simp at hu;rcases hu with rfl|rfl|rfl|rfl <;> rfl) Dd Um Oo Sy _ rfl ?_;intro g4 c4 w4 a3 I d8 d9)
    |fail)
   have HE:Hh (MsM w w4 (sZ g4 0 ((yN ps x es j).length+1) c4) (yN ps x es (j+1))/\w4.1[w.1.size]?=some (.cells #[.slice p0 n0 c0,sZ b2 o2 ps.length kp,.slice p2 n2 c2] 93 (0,0))):=ay (by
    obtain⟨y1,y2⟩:=V.o;refine⟨⟨by rw[b8.o,lA,lS,dM];exact a3,λe he=>?_,(y1.bel.alloc hsz _).grown I Sy (λk hk=>(HO.lt k hk).1)⟩,?_⟩
    .rw[b8.o]at he;rcases cF.1 he with he|he;exact y1.each e he;rw[cI.1 he];exact d5
    refine(I.block _ (by have:=(dK.1 y2).1;simp;omega) (λe=>?_)).trans ((eL (dK.1 y2).1).trans y2);rcases HO.2 with ⟨rfl,-⟩|⟨g,cap,cur,rfl,-,hr,-⟩;cases e
    have e:w.1.size=g:=Option.some.inj e;rw[e,hr]at y2;simp only[oI,Obj.cells.injEq]at y2;exact absurd y2.2.1 Dd)
   clear a3 I HO V d0 d1 d2 d3 t1 e1;go_roundw;exact⟨j+1,Oo,Gg,HE⟩;exact Im
  have q1:(x == i)=false:=by simpa using hx
  rw[fF hx]at hsu;have HE:Hh (MsM w W2 u7 (yN ps i es (j+1))/\W2.1[w.1.size]?=some (.cells #[.slice p0 n0 c0,sZ b2 o2 ps.length kp,.slice p2 n2 c2] 93 (0,0))):=ay (by rw[hsu];exact V);clear hsu;go_wp2;go_roundw;exact⟨j+1,Oo,Gg,HE⟩;exact Im
 obtain rfl:j=n:=Oo;have i1:=aY j;go_wp2;go_ret;exact⟨_,rfl,HX.1,HX.1.bel⟩
theorem qIz{v}(h:W.ownsRow B 3 1 v l.length (l.map ai)):PtI W v l:=by
 rcases h.2 with ⟨e,K⟩|⟨g,cap,cur,rfl,-⟩;exact Or.inl ⟨e,dV.1 K⟩;refine Or.inr ⟨g,0,cap,rfl,λj I=>?_⟩;have:=h.cellAt j Oo;rw[cU,this,bK,gE I,gdR I];rfl
theorem qI0{B1 B2 be s1 s2 c es D}(V:W.ownsRow B1 3 1 s1 c.sh.length (c.sh.map ai))(h2:W.ownsRow B2 3 1 s2 c.hd.length (c.hd.map ai))(M:En W O be c.Q es D)(b1:B<=B1)(b2:B<=B2)(b3:B<=O)(b4:B<=be)(hl:c.sh.length<=1000/\c.hd.length<=1000)(i1:∀y∈c.sh,0<=y/\y<6)(i2:∀y∈c.hd,0<=y/\y<6):Fz B (λX=>ChA X s1 s2 be c) W:=λW' I=>
 ⟨qN (qD V λg K=>I g (bM b1 (V.lt g K).1) (V.lt g K).2),qIz (qD h2 λg K=>I g (bM b2 (h2.lt g K).1) (h2.lt g K).2),⟨O,es,D,M.move (I _ b4 M.map.lt) λe he=>by
  obtain⟨ks,D',h4,-⟩:=M.inner e he;exact I _ (bM b3 (M.low e he)) h4.lt⟩,hl,i1,i2⟩
structure Snt(B:Nat)(W:World)(v:Value)(es:List Mg):Prop where
 own:W.ownsRow B 146 4 v es.length (es.flatMap mcl)
 each:∀e∈es,∀X,(∀k,B<=k->k<W.1.size->v.ownBlock≠some k->X.1[k]?=W.1[k]?)->ChA X (.slice e.a1 e.n1 e.k1) (.slice e.a2 e.n2 e.k2) e.be e.ch
theorem Snt.mgs{v es}(h:Snt B W v es):MgS W v es:=by
 rcases h.own.2 with ⟨rfl,I⟩|⟨g,cap,cur,rfl,-⟩;exact⟨none,0,by rw[I],Or.inl I⟩;refine⟨_,cap,rfl,Or.inr ⟨g,0,rfl,λj K=>?_⟩⟩;have⟨f0,f1,f2,f3⟩:=YC K;rw[cU];refine⟨?_,?_,?_,?_,h.each _ (qz K) W λ_ _ _ _=>rfl⟩;rw[h.own.cellAt _ Oo];exact f0;rw[h.own.cellAt _ Oo];exact f1;rw[h.own.cellAt _ Oo];exact f2;rw[h.own.cellAt _ Oo];exact f3
theorem Snt.below{v es}(h:Snt B W v es)(hb:Bl W W'):Snt B W' v es:=
 ⟨qB h.own hb,λe K X M=>h.each e K X λk O I V=>(M k O (bN I hb.size) V).trans (hb.block k I)⟩
theorem Snt.push{v es e o}(h:Snt B W v es)(hB:B<=W.1.size)(hb:Bl W I)(he:Fz W.1.size (λX=>ChA X (.slice e.a1 e.n1 e.k1) (.slice e.a2 e.n2 e.k2) e.be e.ch) I)(a3:W3.ownsRow B 146 4 (sZ g 0 (es.length+1) c) (es.length+1) (es.flatMap mcl++mcl e))(hg:(I.alloc o).grownBy W3 v.ownBlock)(a4:v.ownBlock=some g\/g=(I.alloc o).1.size):Snt B W3 (sZ g 0 (es.length+1) c) (es++[e]):=by
 have hs:=hb.size;have a8:I.1.size<=W3.1.size:=by have:=hg.size;rw[aM]at this;omega
 rw[aM]at a4;refine⟨by rw[lA,lS,dM];simpa using a3,λx hx X hX=>?_⟩;have a5:=λk K M O=>(hX k K Oo (λe2=>by
  obtain rfl:g=k:=by simpa[Value.ownBlock]using e2
  rcases a4 with V|V;exact O V;omega)).trans ((λk K M=>zD hg K (Ne.symm M)) k M O)
 rcases cF.1 hx with K|K;exact h.each x K X λk M O V=>(a5 k M Oo V).trans (hb.block k O);obtain rfl:=cI.1 K;exact he X λk M O=>a5 k Oo O λV=>O1 ((λk hk=>(h.own.lt k hk).2) k V)
def zg(ps:LI)(ch:Nat->Ch)(i:Nat):List Ch:=((List.range i).filter λj=>decide (ps.getD j 0=(i:Int))).map ch
theorem qFm{ch}:(zg ps ch i).length<=i:=by
 unfold zg;rw[lM];exact bM (dH _ _) (by rw[List.length_range];exact eA)
structure MsH(bt:List TbV)(ps hd:LI)(ch:Nat->Ch):Prop where
 len:ps.length=bt.length
 few:bt.length<=20
 par:∀i,i<bt.length->∃q:Nat,ps.getD i 0=(q:Int)/\q<bt.length/\(ch i).sh=shr (bt.getD i qA).vs (bt.getD q qA).vs
 ok:∀i,i<bt.length->qW (bt.getD i qA)=true/\Wf (bt.getD i qA).rows
 hed:∀i,i<bt.length->(ch i).hd=shr (bt.getD i qA).vs hd++hds (zg ps ch i) (zg ps ch i).length
 q:∀i,i<bt.length->∀s a,(ch i).Q s a↔yG (bt.getD i qA).vs (ch i).sh (shr (bt.getD i qA).vs hd) (bt.getD i qA).rows (zg ps ch i) (bt.getD i qA).rows.length s a
 ls:∀i,i<bt.length->((ch i).sh.length<=1000/\(ch i).hd.length<=1000)/\(∀y∈(ch i).sh,0<=y/\y<6)/\∀y∈(ch i).hd,0<=y/\y<6
 ky:∀i,i<bt.length->∀r∈(bt.getD i qA).rows,∀q,q<(zg ps ch i).length->∃y,((zg ps ch i).getD q zF).Q (xM ((zg ps ch i).getD q zF).sh (xx (bt.getD i qA).vs r)) y
 fn:∀i,i<bt.length->∀r∈(bt.getD i qA).rows,∀q,q<=(zg ps ch i).length->∀ks:LL,ks.Nodup->(∀a∈ks,jU (shr (bt.getD i qA).vs hd) (xx (bt.getD i qA).vs r) (zg ps ch i) q a)->ks.length<=500000
 chs:∀i,i<bt.length->∀(s:LI) (ks:LL),ks.Nodup->(∀a∈ks,(ch i).Q s a)->ks.length<=500000
 tl:∀i,i<bt.length->∀n,n<=(bt.getD i qA).rows.length->∀(s:LI) (ks:LL),ks.Nodup->(∀a∈ks,yG (bt.getD i qA).vs (ch i).sh (shr (bt.getD i qA).vs hd) (bt.getD i qA).rows (zg ps ch i) n s a)->ks.length<=500000
theorem MsH.ow{hd ch}(h:MsH bt ps hd ch)(hi:i<bt.length):(shr (bt.getD i qA).vs hd).length<=1000/\∀y∈shr (bt.getD i qA).vs hd,0<=y/\y<6:=by
 obtain⟨⟨-,I⟩,-,K⟩:=h.ls i hi;rw[h.hed i hi]at I K;exact⟨by rw[lA]at I;omega,λy M=>K y (dW _ M)⟩
theorem MsH.kid{hd ch}(h:MsH bt ps hd ch)(hi:i<bt.length):∀q,q<(zg ps ch i).length->∀(s:LI) (ks:LL),ks.Nodup->(∀a∈ks,((zg ps ch i).getD q zF).Q s a)->ks.length<=500000:=λq hq s ks I K=>by
 have⟨j,M,e⟩:=cC.1 (qz (d:=zF) hq);have O:=cJ.1 (cK.1 M).1;exact h.chs j Oo s _ I λa V=>by rw[e];exact K a V
theorem qHX{ch es}(hl:es.length=i)(h:∀j,j<i->(es.getD j zZ).ch=ch j):(yN ps (i:Int) es es.length).map Mg.ch=zg ps ch i:=by
 unfold yN zg;rw[hl,List.map_map];exact cV λj I=>h j (cJ.1 (cK.1 I).1)
end Go.Proofs.YtnpgdnaeghilhaaGreat
