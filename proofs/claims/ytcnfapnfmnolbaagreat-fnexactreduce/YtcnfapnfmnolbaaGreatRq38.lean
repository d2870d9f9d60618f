import Derived.Test.YtcnfapnfmnolbaaGreatRq11
set_option maxHeartbeats 40000000
set_option maxRecDepth 1000000
namespace Go.Proofs.YtcnfapnfmnolbaaGreat
open Go.RowKit
variable {ls:LL}{tl:List TbR}{us:List Value}{B g i j k p:Nat}{v:Value}{W w wr:World}
def Fz(B:Nat)(P:World->Prop)(w:World):Prop:=∀W',(∀k,B<=k->k<w.1.size->W'.1[k]?=w.1[k]?)->P W'
section
variable {B B' p:Nat} {P Q:World->Prop} {w w':World}
theorem Fz.self(h:Fz B P w):P w:=h w λ_ _ _=>rfl
theorem Fz.below(h:Fz B P w)(hb:Bl w w'):Fz B P w':=λW' I=>h W' λk M K=>(I k M (bN K hb.size)).trans (hb.block k K)
theorem Fz.mono(h:Fz B P w)(hB:B'<=B):Fz B' P w:=λW' I=>h W' λk K M=>I k (bM hB K) M
theorem Fz.imp(h:Fz B P w)(f:∀W,P W->Q W):Fz B Q w:=λW' I=>f _ (h W' I)
theorem RQ.fz(h:RQ w B v us ls):Fz B (λW=>RQ W B v us ls) w:=λ_ I=>
 ⟨qC h.own λg K=>I g (h.own.lt g K).1 (h.own.lt g K).2,h.len,λi hi=>qC (h.each i hi) λg K=>I g ((h.each i hi).lt g K).1 ((h.each i hi).lt g K).2,h.ap⟩
theorem Xw{l:LI}(h:w.ownsRow B 3 1 v l.length (l.map ai)):Fz B (λW=>IS W v l) w:=λ_ I=>qS (qC h λg K=>I g (h.lt g K).1 (h.lt g K).2)
end
def Fx(B p:Nat)(P:World->Prop)(w:World):Prop:=∀W',(∀k,B<=k->k<w.1.size->k≠p->W'.1[k]?=w.1[k]?)->P W'
theorem Fx.below{P:World->Prop}{w':World}(h:Fx B p P w)(hb:Bl w w'):Fx B p P w':=λW' I=>h W' λk M K O=>(I k M (bN K hb.size) O).trans (hb.block k K)
theorem RSx.fx{W0:World}(h1:RSx (λu=>∀k,u.ownBlock=some k->B<=k/\k≠p) W0 W v us ls)(hb:Bl W0 W)(hv:∀k,v.ownBlock=some k->B<=k/\k≠p):Fx B p (λW=>ISS W v ls) W:=λW' K=>by
 obtain⟨⟨a,cap,rfl,hc,hq⟩,-,M⟩:=h1;refine⟨a,cap,rfl,?_⟩;rcases hq with hq|⟨b,o,rfl,hq⟩;exact Or.inl hq;refine Or.inr ⟨b,o,rfl,λj O=>?_⟩;obtain⟨⟨⟨a2,c2,U,I⟩,h3⟩,V⟩:=M j O;refine⟨us.getD j undef,?_,⟨a2,c2,U,?_⟩⟩;exact(bF (w:=W) (a:=(az b (o+j))) (K b (hv b rfl).1 (bL W _ (hq j O)) (hv b rfl).2)).trans (hq j O);rcases I with I|⟨b2,o2,rfl,I⟩;exact Or.inl I;refine Or.inr ⟨b2,o2,rfl,λi hi=>?_⟩;have h5:W.cell? (az b2 (o2+i))=some (ai (ls.getD j []|>.getD i 0)):=(hb.cell (p:=(az b2 (o2+i))) (bL W0 _ (I i hi))).trans (I i hi);exact(bF (w:=W) (a:=(az b2 (o2+i))) (K b2 (V b2 (by rw[U];rfl)).1 (bL W _ h5) (V b2 (by rw[U];rfl)).2)).trans h5
structure TbC where
 v0:Value
 v1:Value
 v2:Value
 t:TbV
def Ys:TbC:=⟨undef,undef,undef,qA⟩
def tcc(r:TbC):List Value:=[r.v0,r.v1,r.v2]
def ITc(W:World)(r:TbC):Prop:=IT W r.v0 r.v1 r.v2 r.t.vs r.t.rows r.t.ws
def ElV(v:Value)(W:World)(r:TbC):Prop:=∀W',(∀k,k<W.1.size->v.ownBlock≠some k->W'.1[k]?=W.1[k]?)->ITc W' r
structure TCs(W:World)(B:Nat)(v:Value)(rl:List TbC):Prop where
 own:W.ownsRow B 61 3 v rl.length (rl.flatMap tcc)
 el:∀r∈rl,ElV v W r
theorem TCs.push{w3:World}{c:Nat}{rl:List TbC}{r:TbC}{o:Obj}(h:TCs wr B v rl)(hb:Bl wr W)(he:Fz wr.1.size (λW=>ITc W r) W)(hg:(W.alloc o).grownBy w3 v.ownBlock)(M:w3.ownsRow B 61 3 (.slice (some (az g 0)) (rl.length+1) c) (rl.length+1) (rl.flatMap tcc++[r.v0,r.v1,r.v2]))(I:v.ownBlock=some g∨g=(W.alloc o).1.size):
 TCs w3 B (.slice (some (az g 0)) (rl.length+1) c) (rl++[r]):=by
 have hs:=hb.size;have a3:=hg.size;rw[World.size_alloc]at a3 I;refine⟨by rw[lA,lS,List.flatMap_append];simpa[tcc]using M,λq hq W' a4=>?_⟩;have key:∀k,k<W.1.size->v.ownBlock≠some k->g≠k->W'.1[k]?=W.1[k]?:=λk O U K=>by
  rw[a4 k Oo (λe=>K (by simpa[Value.ownBlock]using e)),hg.block k (by rw[World.size_alloc];omega) (λe=>U e.symm)];exact Below.heap_alloc _ _ _ O
 have V:∀k,v.ownBlock=some k->k<wr.1.size:=λk O=>(h.own.lt k O).2;rcases List.mem_append.1 hq with hq|hq
 ·refine h.el q hq W' λk O U=>?_;rw[key k Oo U (λe=>?_)];exact hb.block k O;subst e;rcases I with K|K;exact U K;omega
 rw[List.mem_singleton]at hq;subst hq;refine he W' λk U K=>key k K (λe=>?_) (λe=>?_);have:=V k e;omega;subst e;rcases I with h3|h3;have:=V _ h3;omega;omega
theorem TCs.below{W':World}{rl:List TbC}(h:TCs W B v rl)(hb:Bl W W'):TCs W' B v rl:=by
 refine⟨qB h.own hb,λr K X M=>h.el r K X λk I O=>?_⟩;rw[M k (bN I hb.size) O];exact hb.block k I
theorem TCs.its{rl:List TbC}(h:TCs W B v rl):ITs W v (rl.map TbC.t):=by
 obtain⟨a,cap,e,K⟩:=XZ tcc (λ_=>rfl) Ys h.own;refine⟨a,cap,by rw[lM];exact e,?_⟩;rcases K with M|⟨g,O,-,K⟩;exact Or.inl (by rw[lM];exact M);refine Or.inr ⟨g,0,O,λj I=>?_⟩;rw[lM]at I;have U:ITc W (rl.getD j Ys):=h.el _ (by rw[gD,gE I];exact gM _) W λ_ _ _=>rfl;have V:(rl.map TbC.t).getD j qA=(rl.getD j Ys).t:=by
  rw[gD,gD,bK,gE I];rfl
 rw[V,Nat.zero_add];exact⟨_,_,_,K j 0 I Oo,K j 1 I Oo,K j 2 I Oo,U⟩
abbrev PV:=Value×LI
def noP:PV:=(undef,[])
def qk(ps:List PV):Nat->Nat
 |0=>0
 |j+1=>qk ps j+(ps.getD j noP).2.length
theorem ZV(ps:List PV):∀{i j:Nat},i<=j->qk ps i<=qk ps j
 |i,0,h=>by
  have e:i=0:=Nat.le_zero.1 h;subst e;exact nR _
 |i,j+1,h=>by
  by_cases e:i=j+1;rw[e];exact nR _;exact bM (ZV ps (i:=i) (j:=j) Oo) (Nat.le_add_right _ _)
theorem Jp{ps:List PV}{m:Nat}(h:∀p∈ps,p.2.length<=m):∀j,qk ps j<=j*m
 |0=>nZ _
 |j+1=>by
  have I:=Jp h j;have K:(ps.getD j noP).2.length<=m:=by
   rw[gD];cases e:ps[j]? with
   |none=>exact nZ _
   |some p=>exact h p (List.mem_of_getElem? e)
  rw[Nat.succ_mul];exact Nat.add_le_add I K
theorem qB0(w:World)(B:Nat)(v:Value)(l:LI)(k:Int)(h:w.ownsRow B 3 1 v l.length (l.map ai))(hl:l.length<=1099511627776)(O:0<=k)(K:k<=1099511627776):
 Cl 38 #[v,ai k] w λe w'=>e=.returned (ai (k+l.length))/\(∀b,some b≠v.ownBlock->w'.1[b]?=w.1[b]?)/\w'.1.size=w.1.size/\Below B w w'/\
  ∀W,(∀g,v.ownBlock=some g->W.1[g]?=w'.1[g]?)->w'.1.size<=W.1.size->Cl 41 #[v,ai k] W λe w''=>e=.returned (ai (k+l.length))/\w''=W:=by
 rcases h.2 with ⟨rfl,U⟩|⟨g,cap,cur,rfl,M,hc,hr⟩;rw[U];refine(JT w none 0 k).mono ?_;rintro e w' ⟨rfl,rfl⟩;refine⟨Ss,λb _=>rfl,rfl,bJ _ _,λW _ _=>?_⟩;have:=JU W none 0 k;simpa using this;refine(JQ w g cap l k (qDm h) hl O K).mono ?_;rintro e w' ⟨rfl,ho,I⟩;exact⟨rfl,λb hb=>I.block b (λe=>hb (by rw[e];rfl)),I.size,I.below M,λW V hs=>JR W g cap l.length k (ho.move (V g rfl) hs) hl O K⟩
structure GB(w:World)(B:Nat)(ps:List PV):Prop where
 own:∀j,j<ps.length->w.ownsRow B 3 1 (ps.getD j noP).1 (ps.getD j noP).2.length ((ps.getD j noP).2.map ai)
 ap:∀i j,i<j->j<ps.length->ApW (ps.getD i noP).1 (ps.getD j noP).1
 few:qk ps ps.length<=2000000000
structure MkB(w wr:World)(B:Nat)(ps:List PV)(k:Nat)(j:Nat):Prop where
 size:wr.1.size=w.1.size
 bel:Below B w wr
 far:∀q,(∀i,i<j->some q≠(ps.getD i noP).1.ownBlock)->wr.1[q]?=w.1[q]?
 held:∀i,i<j->∀W,(∀q,(ps.getD i noP).1.ownBlock=some q->W.1[q]?=wr.1[q]?)->wr.1.size<=W.1.size->Cl 41 #[(ps.getD i noP).1,ai ((k+qk ps i:Nat):Int)] W λe w''=>e=.returned (ai ((k+qk ps (i+1):Nat):Int))/\w''=W
section
variable {w wr:World} {B:Nat} {ps:List PV} {k j:Nat}
theorem MkB.start:MkB w w B ps k 0:=⟨rfl,bJ _ _,λ_ _=>rfl,λi hi=>Oo⟩
theorem MkB.own(h:MkB w wr B ps k j)(I:GB w B ps)(K:j<ps.length):wr.ownsRow B 3 1 (ps.getD j noP).1 (ps.getD j noP).2.length ((ps.getD j noP).2.map ai):=
 qC (I.own j K) λq hq=>h.far q λi hi M=>I.ap i j hi K q M.symm hq
theorem MkB.other(h:MkB w wr B ps k j)(K:GB w B ps)(O:j<=ps.length){ty:TypeId}(M:∃cur,w.1[g]?=some (.cells cur ty (0,0)))(I:3≠ty):wr.1[g]?=w.1[g]?:=
 h.far g λi hi=>own_ne (K.own i Oo) M I
theorem qB1(h:MkB w wr B ps k j)(I:GB w B ps)(K:j<ps.length)(hk:k<=8388608):
 Cl 38 #[(ps.getD j noP).1,ai ((k+qk ps j:Nat):Int)] wr λe w'=>e=.returned (ai ((k+qk ps (j+1):Nat):Int))/\MkB w w' B ps k (j+1):=by
 have hf:=I.few;have h1:=ZV ps (show j+1<=ps.length from K);have h2:qk ps (j+1)=qk ps j+(ps.getD j noP).2.length:=rfl;have M:((k+qk ps j:Nat):Int)+((ps.getD j noP).2.length:Int)=((k+qk ps (j+1):Nat):Int):=Oo;refine(qB0 wr B _ _ ((k+qk ps j:Nat):Int) (h.own I K) Oo Oo Oo).mono ?_;rintro e w2 ⟨rfl,g1,g2,g3,O⟩;rw[M]at O;refine⟨qR M,g2.trans h.size,h.bel.trans g3,λq hq=>(g1 q (hq j Oo)).trans (h.far q λi hi=>hq i Oo),λi hi W U hs=>?_⟩;by_cases e:i=j;subst e;exact O W U hs;exact h.held i Oo W (λq hq=>(U q hq).trans (g1 q (λV=>I.ap i j Oo K q hq V.symm))) Oo
end
theorem qGe{ps:List PV}(h:MkB w wr B ps k j)(V:GB w B ps)(a:Option Addr)(n cap:Nat)(a3:j+n<=ps.length)(hk:k<=8388608)(hn:n<=1048576)
 (hc:∀i,i<n->∃g,a=some (az g 0)/\∀I j',j'<=ps.length->MkB w I B ps k j'->I.cell? (az g i)=some (ps.getD (j+i) noP).1):
 Cl 39 #[.slice a n cap,ai ((k+qk ps j:Nat):Int)] wr λe w'=>e=.returned (ai ((k+qk ps (j+n):Nat):Int))/\MkB w w' B ps k (j+n):=by
 have HM:=ay h;have HC:=ay hc;have HK:Hh (∀I i,i<n->MkB w I B ps k (j+i)->Cl 38 #[(ps.getD (j+i) noP).1,ai ((k+qk ps (j+i):Nat):Int)] I λe w'=>e=.returned (ai ((k+qk ps (j+(i+1)):Nat):Int))/\MkB w w' B ps k (j+(i+1))):=ay λI i hi hm=>qB1 hm V Oo hk;have HS:Hh (∀i,i<n->∃a n cap,(ps.getD (j+i) noP).1=.slice a n cap):=ay λi hi=>by
  obtain⟨a,c,e⟩:=qG (V.own (j+i) Oo);exact⟨a,_,c,e⟩
 have HL:Hh (∀i,i<=n->k+qk ps (j+i)<=1099511627776):=ay λi hi=>by
  have h1:=ZV ps (show j+i<=ps.length by omega);have:=V.few;omega
 clear h hc V hk;go_enter Tryz.func39,Tryz.ntmps39;go_wp2;go_loopw [1,5] (λu t I=>∃i:Nat,i<=n/\t=ai i/\∃c:Nat,u=ai (c:Int)/\Hh (c=k+qk ps (j+i)/\MkB w I B ps k (j+i))) (λ_ t _=>n-(intOf t).toNat);exact⟨0,nZ _,rfl,_,rfl,ay ⟨rfl,HM.o⟩⟩;clear HM;obtain⟨i,hi,rfl,c,rfl,M⟩:=hrel;by_cases U:i<n
 ·have i1:(i:Int)<(n:Int):=Oo;obtain⟨g,rfl,O⟩:=HC.o i U;have c1:=O wr (j+i) Oo M.o.2;have K:=ay (HK.o wr i U M.o.2);rw[<-M.o.1]at K;obtain⟨au,nu,cu,eu⟩:=HS.o i U;rw[eu]at c1 K;clear M O eu;go_wp2_with fail;refine K.o.mono ?_;rintro e w2 ⟨rfl,hm⟩;have HN:=ay hm;clear hm K c1;go_wp2_with fail;go_roundw;exact⟨i+1,Oo,Gg,_,rfl,ay ⟨rfl,HN.o⟩⟩;exact Im
 obtain rfl:i=n:=Oo;have i1:¬((i:Int)<(i:Int)):=Oo;go_wp2;go_ret;exact⟨qR (by have:=M.o.1;omega),M.o.2⟩
theorem qGf(W:World)(ps:List PV)(k j:Nat)(a:Option Addr)(n cap:Nat)(hn:n<=1048576)
 (U:∀i,i<n->∃g,a=some (az g 0)/\W.cell? (az g i)=some (ps.getD (j+i) noP).1)
 (hs:∀i,i<n->∃a n cap,(ps.getD (j+i) noP).1=.slice a n cap)
 (V:∀i,i<n->Cl 41 #[(ps.getD (j+i) noP).1,ai ((k+qk ps (j+i):Nat):Int)] W λe w''=>e=.returned (ai ((k+qk ps (j+(i+1)):Nat):Int))/\w''=W):
 Cl 42 #[.slice a n cap,ai ((k+qk ps j:Nat):Int)] W λe w''=>e=.returned (ai ((k+qk ps (j+n):Nat):Int))/\w''=W:=by
 have HC:=ay U;have HS:=ay hs;have HH:=ay V;clear U hs V;go_enter Tryz.func42,Tryz.ntmps42;go_wp2;go_loop [1,5] (λu t=>∃i:Nat,i<=n/\t=ai i/\∃c:Nat,u=ai (c:Int)/\Hh (c=k+qk ps (j+i))) (λ_ t=>n-(intOf t).toNat);exact⟨0,nZ _,rfl,_,rfl,ay rfl⟩;obtain⟨i,hi,rfl,c,rfl,I⟩:=hrel;by_cases M:i<n
 ·have i1:(i:Int)<(n:Int):=Oo;obtain⟨g,rfl,c1⟩:=HC.o i M;have K:=ay (HH.o i M);rw[<-I.o]at K;obtain⟨au,nu,cu,eu⟩:=HS.o i M;rw[eu]at c1 K;obtain⟨z,O⟩:=Ex (k+qk ps (j+(i+1)):Nat);rw[<-O]at K;have HZ:=ay O;clear I eu O;have g1:¬((z:Int)<0):=Oo;go_wp2_with fail;refine K.o.mono ?_;rintro e w2 ⟨rfl,a3⟩;subst w2;go_wp2_with fail;go_round;exact⟨i+1,Oo,Gg,z,rfl,ay HZ.o⟩;exact Im
 obtain rfl:i=n:=Oo;have i1:¬((i:Int)<(i:Int)):=Oo;go_wp2;go_ret;exact⟨qR (by have:=I.o;omega),rfl⟩
def flP(t:TbR):List PV:=(t.v0,t.vs)::(t.us.zip t.rows++[(t.v2,t.ws)])
def ofT(tl:List TbR)(j:Nat):Nat:=((tl.take j).flatMap flP).length
theorem Jq(t:TbR):(flP t).getD 0 noP=(t.v0,t.vs):=rfl
theorem Yx{t:TbR}(h:t.us.length=t.rows.length):(flP t).length=t.rows.length+2:=by simp[flP,h]
theorem qBA{t:TbR}(h:t.us.length=t.rows.length)(hi:i<t.rows.length):(flP t).getD (1+i) noP=(t.us.getD i undef,t.rows.getD i []):=by
 have I:i<(t.us.zip t.rows).length:=by rw[List.length_zip];omega
 have e:(flP t)[1+i]?=some (t.us.getD i undef,t.rows.getD i []):=by
  show((t.v0,t.vs)::(t.us.zip t.rows++[(t.v2,t.ws)]))[1+i]?=_;rw[Nat.add_comm,List.getElem?_cons_succ,aL I,gE I,List.getElem_zip,gD,gD,gE (by omega:i<t.us.length),gE hi];rfl
 rw[gD,e];rfl
theorem Jr{t:TbR}(h:t.us.length=t.rows.length):(flP t).getD (1+t.rows.length) noP=(t.v2,t.ws):=by
 have I:(t.us.zip t.rows).length=t.rows.length:=by rw[List.length_zip];omega
 have e:(flP t)[1+t.rows.length]?=some (t.v2,t.ws):=by
  show((t.v0,t.vs)::(t.us.zip t.rows++[(t.v2,t.ws)]))[1+t.rows.length]?=_;rw[Nat.add_comm,List.getElem?_cons_succ,bQ Oo,I,Nat.sub_self];rfl
 rw[gD,e];rfl
theorem kG(I:j<tl.length)(hi:i<(flP (tl.getD j qY)).length):(tl.flatMap flP).getD (ofT tl j+i) noP=(flP (tl.getD j qY)).getD i noP:=by
 have e:tl.getD j qY=tl[j]:=by rw[gD,gE I];rfl
 have es:tl.flatMap flP=(tl.take j).flatMap flP++(flP tl[j]++(tl.drop (j+1)).flatMap flP):=by
  rw[<-List.flatMap_cons,<-List.flatMap_append,<-List.drop_eq_getElem_cons I,tD]
 rw[e]at hi ⊢;rw[gD,gD,es,bQ (by unfold ofT;omega),show ofT tl j+i-((tl.take j).flatMap flP).length=i by unfold ofT;omega,aL hi]
theorem XI(I:j<tl.length):ofT tl (j+1)=ofT tl j+(flP (tl.getD j qY)).length:=by
 unfold ofT;rw[tA,gE I,List.flatMap_append,lA,gD,gE I];simp
theorem kH(tl:List TbR):ofT tl tl.length=(tl.flatMap flP).length:=by unfold ofT;rw[tL]
theorem YC(tl:List TbR){i:Nat}:∀{j:Nat},i<=j->j<=tl.length->ofT tl i<=ofT tl j
 |0,h,_=>by
  have e:i=0:=Nat.le_zero.1 h;subst e;exact nR _
 |j+1,h,hl=>by
  by_cases e:i=j+1;rw[e];exact nR _;have I:=YC tl (i:=i) (j:=j) Oo Oo;have K:=XI (tl:=tl) (j:=j) Oo;omega
theorem qBB{t:TbR}{p:PV}(h:p∈flP t):p.1∈bls t:=by
 rcases List.mem_cons.1 h with rfl|h;exact List.mem_cons_self;rcases List.mem_append.1 h with h|h;exact mC _ (mC _ (List.of_mem_zip h).1);rw[List.mem_singleton.1 h];exact mC _ List.mem_cons_self
theorem TWr.flOwn{t:TbR}(h:TWr W B t){p:PV}(I:p∈flP t):W.ownsRow B 3 1 p.1 p.2.length (p.2.map ai):=by
 rcases List.mem_cons.1 I with rfl|I;exact h.o0;rcases List.mem_append.1 I with I|I;obtain⟨i,hi,e⟩:=gO I;rw[List.getElem_zip]at e;rw[List.length_zip]at hi;have:=h.rq.each i Oo;rw[gD,gE (by omega:i<t.us.length),gD,gE (by omega:i<t.rows.length)]at this;rw[<-e];exact this;rw[List.mem_singleton.1 I];exact h.o2
theorem ApW.symm{u:Value}(h:ApW u v):ApW v u:=λg I K=>h g K I
theorem TWr.flAp{t:TbR}(h:TWr W B t):(flP t).Pairwise λp q=>ApW p.1 q.1:=by
 have K:∀{i:Nat} (hi:i<t.us.length),t.us.getD i undef=t.us[i]:=λ{i} hi=>by rw[gD,gE hi];rfl
 have hl:=h.rq.len;refine List.pairwise_cons.2 ⟨λp I=>?_,List.pairwise_append.2 ⟨?_,List.pairwise_singleton _ _,λp I q hq=>?_⟩⟩
 ·rcases List.mem_append.1 I with I|I;obtain⟨i,hi,e⟩:=gO I;rw[List.getElem_zip]at e;rw[List.length_zip]at hi;rw[<-e];have:=h.a0 i Oo;rw[K Oo]at this;exact this.symm;rw[List.mem_singleton.1 I];exact h.a02
 rw[List.pairwise_iff_getElem];intro i j hi O M;rw[List.getElem_zip,List.getElem_zip];rw[List.length_zip]at hi O;have:=h.rq.ap i j M Oo;rw[K Oo,K Oo]at this;exact this;obtain⟨i,hi,e⟩:=gO I;rw[List.getElem_zip]at e;rw[List.length_zip]at hi;rw[<-e,List.mem_singleton.1 hq];have:=h.a2 i Oo;rw[K Oo]at this;exact this
theorem qEE(h:∀t∈tl,(flP t).length<=10002):(tl.flatMap flP).length<=tl.length*10002:=by
 induction tl with
 |nil=>simp
 |cons x r ih=>
  rw[List.flatMap_cons,lA,List.length_cons];have K:=h x List.mem_cons_self;have M:=ih λt I=>h t (mC _ I);omega
theorem TBs.gb(h:TBs W B v tl)(h7:tl.length<=12)(hO:∀t∈tl,TvOk (tvB t)):GB W B (tl.flatMap flP):=by
 have O:∀{j:Nat} (K:j<(tl.flatMap flP).length),(tl.flatMap flP).getD j noP=(tl.flatMap flP)[j]:=λ{j} K=>by rw[gD,gE K];rfl
 have U:(tl.flatMap flP).Pairwise λp q=>ApW p.1 q.1:=List.pairwise_flatMap.2 ⟨λt M=>TWr.flAp (h.each t M),h.ap.imp λhst (x:PV) hx (y:PV) hy=>hst x.1 (qBB hx) y.1 (qBB hy)⟩;refine⟨λj K=>?_,λi j V K=>?_,?_⟩;rw[O K];obtain⟨t,M,I⟩:=List.mem_flatMap.1 (gM K);exact TWr.flOwn (h.each t M) I;rw[O K,O Oo];exact List.pairwise_iff_getElem.1 U i j Oo K V;have h1:(tl.flatMap flP).length<=tl.length*10002:=qEE λt M=>by
  rw[Yx (h.each t M).rq.len];have h1:t.rows.length<=10000:=(hO t M).n;omega
 have h2:qk (tl.flatMap flP) (tl.flatMap flP).length<=(tl.flatMap flP).length*10000:=Jp (λp I=>by
  obtain⟨t,M,I⟩:=List.mem_flatMap.1 I;have ok:=hO t M;rcases List.mem_cons.1 I with rfl|I;have:t.vs.length<=6:=ok.vs;show t.vs.length<=10000;omega;rcases List.mem_append.1 I with I|I;have:=ok.len p.2 (List.of_mem_zip I).2;omega;rw[List.mem_singleton.1 I];exact ok.ws) _
 omega
theorem jl(O:GB w B (tl.flatMap flP))(I:∀j q,j<tl.length->q<3->w.cell? (az g (j*3+q))=(tcs (tl.getD j qY))[q]?)(U:∃cur,w.1[g]?=some (.cells cur 61 (0,0)))
 (V:MkB w wr B (tl.flatMap flP) k i) (hi:i<=(tl.flatMap flP).length) {j:Nat} (K:j<tl.length):
 wr.cell? (az g (j*3))=some (tl.getD j qY).v0/\wr.cell? (az g (j*3+1))=some (tl.getD j qY).v1/\wr.cell? (az g (j*3+2))=some (tl.getD j qY).v2:=by
 have e:=V.other O hi U Dd;have M:∀q,wr.cell? (az g q)=w.cell? (az g q):=λq=>bF (w:=w) (a:=(az g q)) e;exact⟨(M _).trans (I j 0 K Oo),(M _).trans (I j 1 K Oo),(M _).trans (I j 2 K Oo)⟩
theorem TWr.row{n:Nat}{ps:List PV}{t:TbR}(h:TWr w B t)(I:GB w B ps)(K:MkB w wr B ps k i)(hi:i<=ps.length)(M:n<t.rows.length):∃g cap,t.v1=.slice (some (az g 0)) t.rows.length cap/\wr.cell? (az g n)=some (t.us.getD n undef):=by
 obtain⟨g,cap,e,-,O⟩:=h.rq.get M;have U:=qN h.rq.own (g:=g) (by rw[e];rfl);exact⟨g,cap,e,(bF (w:=w) (a:=(az g n)) (K.other I hi U Dd)).trans O⟩
theorem TBs.nth(h:TBs W B v tl)(I:j<tl.length):TWr W B (tl.getD j qY):=h.each _ (by rw[gD,gE I];exact gM _)
theorem XJ(w:World)(B:Nat)(v:Value)(tl:List TbR)(h:TBs w B v tl)(h7:tl.length<=12)(hO:∀t∈tl,TvOk (tvB t)):
 Cl 12 #[v,ai 1] w λe w'=>e=.returned (ai ((1+qk (tl.flatMap flP) (tl.flatMap flP).length:Nat):Int))/\MkB w w' B (tl.flatMap flP) 1 (tl.flatMap flP).length:=by
 have V:=h.gb h7 hO;obtain⟨a,cap,rfl,K⟩:=XZ tcs (λ_=>rfl) qY h.own;obtain⟨n,hn⟩:=Ex tl.length;have HK:Hh (∀j wr,j<n->MkB w wr B (tl.flatMap flP) 1 (ofT tl j)->∃g a0 n0 c0 a1 n1 c1 a2 n2 c2 L1 L2 L3 i1 i2,a=some (az g 0)/\wr.cell? (az g (j*3))=some (.slice a0 n0 c0)/\L1=1+qk (tl.flatMap flP) (ofT tl j)/\
  Cl 38 #[.slice a0 n0 c0,ai ((L1:Nat):Int)] wr (λe w'=>e=.returned (ai ((L2:Nat):Int))/\MkB w w' B (tl.flatMap flP) 1 i1)/\
  (∀M,MkB w M B (tl.flatMap flP) 1 i1->M.cell? (az g (j*3+1))=some (.slice a1 n1 c1)/\Cl 39 #[.slice a1 n1 c1,ai ((L2:Nat):Int)] M (λe w'=>e=.returned (ai ((L3:Nat):Int))/\MkB w w' B (tl.flatMap flP) 1 i2))/\
  (∀M,MkB w M B (tl.flatMap flP) 1 i2->M.cell? (az g (j*3+2))=some (.slice a2 n2 c2)/\Cl 38 #[.slice a2 n2 c2,ai ((L3:Nat):Int)] M (λe w'=>e=.returned (ai ((1+qk (tl.flatMap flP) (ofT tl (j+1)):Nat):Int))/\MkB w w' B (tl.flatMap flP) 1 (ofT tl (j+1))))):=ay λj wr I hM=>by
  rw[hn]at I;rcases K with h0|⟨g,ea,ht,hc⟩;omega;have tw:=h.nth I;have hlen:=tw.rq.len;have c7:=Yx hlen;have c8:=XI I;have hle:=YC tl (show j+1<=tl.length from I) (nR _);rw[kH]at hle;have p0:(tl.flatMap flP).getD (ofT tl j) noP=((tl.getD j qY).v0,(tl.getD j qY).vs):=by
   have:=kG (i:=0) I Oo;rw[Nat.add_zero]at this;exact this.trans (Jq _)
  have p1:∀i,i<(tl.getD j qY).rows.length->(tl.flatMap flP).getD (ofT tl j+1+i) noP=((tl.getD j qY).us.getD i undef,(tl.getD j qY).rows.getD i []):=λi hi=>by
   rw[Nat.add_assoc];exact(kG (i:=1+i) I Oo).trans (qBA hlen hi)
  have p2:(tl.flatMap flP).getD (ofT tl j+1+(tl.getD j qY).rows.length) noP=((tl.getD j qY).v2,(tl.getD j qY).ws):=by
   rw[Nat.add_assoc];exact(kG (i:=1+(tl.getD j qY).rows.length) I Oo).trans (Jr hlen)
  obtain⟨a0,c0,e0⟩:=qG tw.o0;obtain⟨a1,c1,e1⟩:=qG tw.rq.own;obtain⟨a2,c2,e2⟩:=qG tw.o2;have c9:(tl.getD j qY).rows.length<=10000:=(hO (tl.getD j qY) (by rw[gD,gE I];exact gM _)).n;refine⟨g,a0,(tl.getD j qY).vs.length,c0,a1,(tl.getD j qY).rows.length,c1,a2,(tl.getD j qY).ws.length,c2,_,1+qk (tl.flatMap flP) (ofT tl j+1),1+qk (tl.flatMap flP) (ofT tl j+1+(tl.getD j qY).rows.length),ofT tl j+1,ofT tl j+1+(tl.getD j qY).rows.length,ea,?_,rfl,?_,λM hA=>⟨?_,?_⟩,λM hA=>⟨?_,?_⟩⟩;rw[<-e0];exact(jl V hc ht hM Oo I).1;have:=qB1 hM V Oo Oo;rw[p0]at this;rw[<-e0];exact this;rw[<-e1];exact(jl V hc ht hA Oo I).2.1;refine qGe hA V a1 (tl.getD j qY).rows.length c1 Oo Oo Oo λi hi=>?_;obtain⟨g1,b8,ee,-⟩:=tw.rq.get hi;rw[e1]at ee;simp only[Value.slice.injEq,true_and]at ee;refine⟨g1,ee.1,λd3 j' a8 a9=>?_⟩;obtain⟨g2,b9,O,b0⟩:=tw.row V a9 a8 hi;rw[e1]at O;simp only[Value.slice.injEq,true_and]at O;rw[ee.1]at O;simp only[Option.some.injEq,Addr.mk.injEq,and_true]at O;obtain⟨rfl,-⟩:=O;rw[p1 i hi];exact b0;rw[<-e2];exact(jl V hc ht hA Oo I).2.2;have:=qB1 hA V Oo Oo;rw[p2]at this;rw[<-e2,show ofT tl (j+1)=ofT tl j+1+(tl.getD j qY).rows.length+1 by omega];exact this
 have HL:Hh (∀j,j<=n->1+qk (tl.flatMap flP) (ofT tl j)<=10000000001):=ay λj I=>by
  have h1:=YC tl (show j<=tl.length by omega) (nR _);rw[kH]at h1;have h2:=ZV (tl.flatMap flP) h1;have h3:=V.few;omega
 rw[<-kH,<-hn];have hz:ofT tl 0=0:=by unfold ofT;simp
 have a3:Hh (MkB w w B (tl.flatMap flP) 1 (ofT tl 0)):=ay (by rw[hz];exact MkB.start);have a4:Hh (1=1+qk (tl.flatMap flP) (ofT tl 0)):=ay (by rw[hz];rfl);have d4:n<=12:=Oo;clear h V K hO hn h7 hz;go_enter Tryz.func12,Tryz.ntmps12;go_wp2;go_loopw [1,5] (λu t wr=>∃j:Nat,j<=n/\t=ai j/\∃c:Nat,u=ai (c:Int)/\Hh (c=1+qk (tl.flatMap flP) (ofT tl j)/\MkB w wr B (tl.flatMap flP) 1 (ofT tl j))) (λ_ t _=>n-(intOf t).toNat);exact⟨0,nZ _,rfl,1,rfl,ay ⟨a4.o,a3.o⟩⟩;clear a3 a4;obtain⟨j,I,rfl,c,rfl,U⟩:=hrel;by_cases b1:j<n
 ·have i1:(j:Int)<(n:Int):=Oo;obtain⟨g,a0,n0,c0,a1,n1,c1,a2,n2,c2,L1,L2,L3,x1,x2,rfl,d0,a5,k0,k1,k2⟩:=HK.o j wr b1 U.o.2;have b7:c=L1:=U.o.1.trans a5.symm;subst b7;have K0:=ay k0;have K1:=ay k1;have K2:=ay k2;clear U a5 k0 k1 k2;go_wp2_with fail;refine K0.o.mono ?_;rintro e M ⟨rfl,hA⟩;obtain⟨d1,k1⟩:=K1.o M hA;have a6:=ay k1;clear k1 hA K1 K0 d0;go_wp2_with fail;refine a6.o.mono ?_;rintro e wB ⟨rfl,hB⟩;obtain⟨d2,k2⟩:=K2.o wB hB;have a7:=ay k2;clear k2 hB K2 a6 d1;go_wp2_with fail;refine a7.o.mono ?_;rintro e wC ⟨rfl,hC⟩;have HC:=ay hC;clear hC a7 d2;go_wp2_with fail;go_roundw;exact⟨j+1,Oo,Gg,_,rfl,ay ⟨rfl,HC.o⟩⟩;exact Im
 obtain rfl:j=n:=Oo;have i1:¬((j:Int)<(j:Int)):=Oo;go_wp2;go_ret;exact⟨qR (by have:=U.o.1;omega),U.o.2⟩
theorem XK(w W:World)(B:Nat)(v:Value)(tl:List TbR)(h:TBs w B v tl)(h7:tl.length<=12)(hO:∀t∈tl,TvOk (tvB t))(hM:MkB w W B (tl.flatMap flP) 1 (tl.flatMap flP).length):
 Cl 14 #[v,ai 1] W λe w'=>e=.returned (ai ((1+qk (tl.flatMap flP) (tl.flatMap flP).length:Nat):Int))/\w'=W:=by
 have hG:=h.gb h7 hO;obtain⟨a,cap,rfl,I⟩:=XZ tcs (λ_=>rfl) qY h.own;obtain⟨n,hn⟩:=Ex tl.length;have HK:Hh (∀j,j<n->∃g a0 n0 c0 a1 n1 c1 a2 n2 c2 L1 L2 L3,a=some (az g 0)/\W.cell? (az g (j*3))=some (.slice a0 n0 c0)/\W.cell? (az g (j*3+1))=some (.slice a1 n1 c1)/\W.cell? (az g (j*3+2))=some (.slice a2 n2 c2)/\L1=1+qk (tl.flatMap flP) (ofT tl j)/\
  Cl 41 #[.slice a0 n0 c0,ai ((L1:Nat):Int)] W (λe w'=>e=.returned (ai ((L2:Nat):Int))/\w'=W)/\
  Cl 42 #[.slice a1 n1 c1,ai ((L2:Nat):Int)] W (λe w'=>e=.returned (ai ((L3:Nat):Int))/\w'=W)/\
  Cl 41 #[.slice a2 n2 c2,ai ((L3:Nat):Int)] W (λe w'=>e=.returned (ai ((1+qk (tl.flatMap flP) (ofT tl (j+1)):Nat):Int))/\w'=W)):=ay λj K=>by
  rw[hn]at K;rcases I with h0|⟨g,ea,ht,hc⟩;omega;have tw:=h.nth K;have hlen:=tw.rq.len;have b0:=Yx hlen;have b1:=XI K;have hle:=YC tl (show j+1<=tl.length from K) (nR _);rw[kH]at hle;have p0:(tl.flatMap flP).getD (ofT tl j) noP=((tl.getD j qY).v0,(tl.getD j qY).vs):=by
   have:=kG (i:=0) K Oo;rw[Nat.add_zero]at this;exact this.trans (Jq _)
  have p1:∀i,i<(tl.getD j qY).rows.length->(tl.flatMap flP).getD (ofT tl j+1+i) noP=((tl.getD j qY).us.getD i undef,(tl.getD j qY).rows.getD i []):=λi hi=>by
   rw[Nat.add_assoc];exact(kG (i:=1+i) K Oo).trans (qBA hlen hi)
  have p2:(tl.flatMap flP).getD (ofT tl j+1+(tl.getD j qY).rows.length) noP=((tl.getD j qY).v2,(tl.getD j qY).ws):=by
   rw[Nat.add_assoc];exact(kG (i:=1+(tl.getD j qY).rows.length) K Oo).trans (Jr hlen)
  obtain⟨a0,c0,e0⟩:=qG tw.o0;obtain⟨a1,c1,e1⟩:=qG tw.rq.own;obtain⟨a2,c2,e2⟩:=qG tw.o2;have b7:(tl.getD j qY).rows.length<=10000:=(hO (tl.getD j qY) (by rw[gD,gE K];exact gM _)).n;have M:=jl hG hc ht hM (nR _) K;refine⟨g,a0,(tl.getD j qY).vs.length,c0,a1,(tl.getD j qY).rows.length,c1,a2,(tl.getD j qY).ws.length,c2,_,1+qk (tl.flatMap flP) (ofT tl j+1),1+qk (tl.flatMap flP) (ofT tl j+1+(tl.getD j qY).rows.length),ea,?_,?_,?_,rfl,?_,?_,?_⟩;rw[<-e0];exact M.1;rw[<-e1];exact M.2.1;rw[<-e2];exact M.2.2;have:=hM.held (ofT tl j) Oo W (λ_ _=>rfl) (nR _);rw[p0]at this;rw[<-e0];exact this
  ·refine qGf W (tl.flatMap flP) 1 (ofT tl j+1) a1 (tl.getD j qY).rows.length c1 Oo (λi hi=>?_) (λi hi=>?_) (λi hi=>hM.held (ofT tl j+1+i) Oo W (λ_ _=>rfl) (nR _));obtain⟨g2,a9,O,a5⟩:=tw.row hG hM (nR _) hi;rw[e1]at O;simp only[Value.slice.injEq,true_and]at O;rw[p1 i hi];exact⟨g2,O.1,a5⟩;rw[p1 i hi];obtain⟨au,cu,eu⟩:=qG (tw.rq.each i hi);exact⟨au,_,cu,eu⟩
  have:=hM.held (ofT tl j+1+(tl.getD j qY).rows.length) Oo W (λ_ _=>rfl) (nR _);rw[p2]at this;rw[<-e2,show ofT tl (j+1)=ofT tl j+1+(tl.getD j qY).rows.length+1 by omega];exact this
 rw[<-kH,<-hn];have hz:ofT tl 0=0:=by unfold ofT;simp
 have a3:Hh (1=1+qk (tl.flatMap flP) (ofT tl 0)):=ay (by rw[hz];rfl);have b8:n<=12:=Oo;clear h hG I hO hn h7 hz hM;go_enter Tryz.func14,Tryz.ntmps14;go_wp2;go_loop [1,5] (λu t=>∃j:Nat,j<=n/\t=ai j/\∃c:Nat,u=ai (c:Int)/\Hh (c=1+qk (tl.flatMap flP) (ofT tl j))) (λ_ t=>n-(intOf t).toNat);exact⟨0,nZ _,rfl,1,rfl,ay a3.o⟩;clear a3;obtain⟨j,K,rfl,c,rfl,U⟩:=hrel;by_cases a6:j<n
 ·have i1:(j:Int)<(n:Int):=Oo;obtain⟨g,a0,n0,c0,a1,n1,c1,a2,n2,c2,L1,L2,L3,rfl,d0,d1,d2,a4,k0,k1,k2⟩:=HK.o j a6;have a7:c=L1:=U.o.trans a4.symm;subst a7;obtain⟨L4,V⟩:=Ex (1+qk (tl.flatMap flP) (ofT tl (j+1)):Nat);rw[<-V]at k2;have K0:=ay k0;have K1:=ay k1;have K2:=ay k2;have a8:=ay V;have g2:¬((L2:Int)<0):=Oo;have g3:¬((L3:Int)<0):=Oo;have g4:¬((L4:Int)<0):=Oo;clear U a4 k0 k1 k2 V;go_wp2_with fail;refine K0.o.mono ?_;rintro e wA ⟨rfl,hA⟩;subst hA;clear K0 d0;go_wp2_with fail;refine K1.o.mono ?_;rintro e wA ⟨rfl,hA⟩;subst hA;clear K1 d1;go_wp2_with fail;refine K2.o.mono ?_;rintro e wA ⟨rfl,hA⟩;subst hA;clear K2 d2;go_wp2_with fail;go_round;exact⟨j+1,Oo,Gg,L4,rfl,ay a8.o⟩;exact Im
 obtain rfl:j=n:=Oo;have i1:¬((j:Int)<(j:Int)):=Oo;go_wp2;go_ret;exact⟨qR (by have:=U.o;omega),rfl⟩
end Go.Proofs.YtcnfapnfmnolbaaGreat
