import Derived.Test.YtcnfapnfmnolbaaGreatRq44
set_option maxHeartbeats 40000000
set_option maxRecDepth 1000000
namespace Go.Proofs.YtcnfapnfmnolbaaGreat
open Go.RowKit
variable {ls:LL}{tl:List TbV}{k:Nat}{v:Value}{W w3:World}
def ITsC(W:World)(v:Value)(tl:List TbV):Prop:=∃a cap,v=.slice a tl.length cap/\(tl.length=0∨∃b o,a=some (az b o)/\∀j,j<tl.length->∃v0 v1 v2,W.cell? (az b (o+j*3))=some v0/\W.cell? (az b (o+j*3+1))=some v1/\W.cell? (az b (o+j*3+2))=some v2/\IT W v0 v1 v2 (tl.getD j qA).vs (tl.getD j qA).rows (tl.getD j qA).ws/\ISSc W v1 (tl.getD j qA).rows)
theorem ITsC.its(h:ITsC W v tl):ITs W v tl:=by
 obtain⟨a,cap,e,h⟩:=h;refine⟨a,cap,e,?_⟩;rcases h with h|⟨b,o,I,h⟩;exact Or.inl h;refine Or.inr ⟨b,o,I,λj K=>?_⟩;obtain⟨v0,v1,v2,c0,c1,c2,M,-⟩:=h j K;exact⟨v0,v1,v2,c0,c1,c2,M⟩
def AnS(W:World)(v:Value)(ls:LL):Prop:=∃a cap,v=.slice a ls.length cap/\(ls.length=0∨∃b o,a=some (az b o)/\∀j,j<ls.length->∃v0 aw nw cw,W.cell? (az b (o+j*2))=some v0/\W.cell? (az b (o+j*2+1))=some (.slice aw nw cw)/\IS W v0 (ls.getD j []))
structure AnM(w3 W:World)(v:Value)(ls:LL)(cs:List (Value×Value)):Prop where
 len:cs.length=ls.length
 own:W.ownsRow w3.1.size 57 2 v ls.length (cs.flatMap λc=>[c.1,c.2])
 el:∀i,i<ls.length->IS w3 (cs.getD i (undef,undef)).1 (ls.getD i [])/\∃a n c,(cs.getD i (undef,undef)).2=.slice a n c
 bel:Bl w3 W
theorem Km:∀{cs:List (Value×Value)} {i:Nat},i<cs.length->(cs.flatMap λc=>[c.1,c.2])[i*2]?=some (cs.getD i (undef,undef)).1/\(cs.flatMap λc=>[c.1,c.2])[i*2+1]?=some (cs.getD i (undef,undef)).2
 |c::cs,0,_=>⟨rfl,rfl⟩
 |c::cs,i+1,h=>by
  obtain⟨I,K⟩:=Km (cs:=cs) (i:=i) (by simpa using h);rw[show(i+1)*2=i*2+1+1 by omega];exact⟨I,K⟩
theorem AnM.push{W':World}{v0:Value}{g c:Nat}{a:Option Addr}{n:Nat}{cs:List (Value×Value)}{r:LI}(h:AnM w3 W v ls cs)(K:IS w3 v0 r)(I:W'.ownsRow w3.1.size 57 2 (.slice (some (az g 0)) (ls.length+1) c) (ls.length+1) ((cs.flatMap λc=>[c.1,c.2])++[v0,.slice a n k]))(hb:Bl w3 W'):AnM w3 W' (.slice (some (az g 0)) (ls.length+1) c) (ls++[r]) (cs++[(v0,.slice a n k)]):=by
 have hl:=h.len;refine⟨by simp[hl],by rw[lA,lS,List.flatMap_append];exact I,λi hi=>?_,hb⟩;rw[lA,lS]at hi;by_cases e:i<ls.length;rw[gD,aL Oo,<-gD,gD (l:=ls++[r]),aL e,<-gD];exact h.el i e;obtain rfl:i=ls.length:=Oo;rw[gD,bQ Oo,gD (l:=ls++[r]),bQ (nR _),hl,Nat.sub_self];exact⟨K,a,n,k,rfl⟩
theorem AnM.is{cs:List (Value×Value)}(h:AnM w3 W v ls cs):AnS W v ls:=by
 rcases h.own.2 with ⟨rfl,I⟩|⟨g,cap,cur,rfl,O,K,I,-,-,M⟩;exact⟨none,0,by rw[I],Or.inl I⟩;refine⟨_,cap,rfl,Or.inr ⟨g,0,rfl,λj U=>?_⟩⟩;have hl:=h.len;obtain⟨V,a,n,c,h2⟩:=h.el j U;obtain⟨f1,f2⟩:=Km (cs:=cs) (i:=j) Oo;rw[Nat.zero_add];refine⟨(cs.getD j (undef,undef)).1,a,n,c,?_,?_,V.below h.bel⟩;rw[cell_of_row _ _ _ _ _ _ K,<-f1,<-M,List.getElem?_take_of_lt Oo,Array.getElem?_toList];rw[cell_of_row _ _ _ _ _ _ K,<-h2,<-f2,<-M,List.getElem?_take_of_lt Oo,Array.getElem?_toList]
theorem qG2{rows:LL}{q:LI}(h:Sk rows q k)(hq:q∈rows):k<rows.length:=by
 obtain⟨j,K,e⟩:=gO hq;rcases Nat.lt_or_ge j k with I|I;have M:=h.lo j I;rw[gdR K,e,tL,zt]at M;omega;omega
theorem qEY{I:Nat}(K:okJ tl (upR I)=true){p:LI}(M:p∈qu tl (upR I)){t:TbV}(U:t∈tl):qm t.vs p∈t.rows/\p.length=I/\∀y∈t.vs,0<=y/\y<I:=by
 have V:=Za K (kN I);have hm:p∈lvJ tl (upR I) (upR I).length:=by
  rw[(xw K).1]at M;split at M;exact M;cases M
 obtain⟨h1,h2⟩:=(qBK V p).1 hm;rw[xS]at h1;have hv:∀y∈t.vs,0<=y/\y<I:=λy O=>qBN.1 ((V.vs t U).2 y O);refine⟨?_,h1,hv⟩;have e:qm t.vs p=qI (upR I) t.vs p:=List.map_congr_left λy O=>by
  have h3:=hv y O;have h4:=jS (upR I) p y.toNat (kN _) (by rw[xS];omega);rw[Kj Oo,show((y.toNat:Nat):Int)=y by omega]at h4;exact h4.symm
 rw[e];exact h2 t U
end Go.Proofs.YtcnfapnfmnolbaaGreat
