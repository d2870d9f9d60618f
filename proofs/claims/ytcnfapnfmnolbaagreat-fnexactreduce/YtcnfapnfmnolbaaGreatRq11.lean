import Derived.Test.YtcnfapnfmnolbaaGreatRq10
set_option maxHeartbeats 40000000
set_option maxRecDepth 1000000
namespace Go.Proofs.YtcnfapnfmnolbaaGreat
open Go.RowKit Meet
variable {x:Int}{l:LI}{ls:LL}{xs:List Value}{B B' c cap fb n0 o p tb:Nat}{v:Value}{W W' W0 w w3 wr:World}
structure Cq(w:World)(c o tb fb cap:Nat)(v1:Value)(l:LI)(p:Nat):Prop where
 ptr:w.cell? (az c o)=some (.pointer (some (az tb 0)))
 pl:w.cell? (az c (o+1))=some (ai p)
 fz:w.frozen? (az c (o+1))=false
 val:w.cell? (az tb 0)=some (.slice (some (az fb 0)) l.length cap)
 bel:w.cell? (az tb 1)=some v1
 own:∀j,j<l.length->w.cell? (az fb j)=some (ai (l.getD j 0))
theorem Cq.drewN{v1:Value}(h:Cq w c o tb fb cap v1 l p)(d:Nat):Cq (w.drewN d) c o tb fb cap v1 l p:=⟨h.ptr,h.pl,h.fz,h.val,h.bel,h.own⟩
theorem ZG(w:World)(c o tb fb cap:Nat)(v1:Value)(l:LI)(p:Nat)(h:Cq w c o tb fb cap v1 l p):
 Cl 138 #[.pointer (some (az c o))] w λe w'=>e=.returned (.bool (decide (p=l.length)))/\∃d,w'=w.drewN d:=by
 have I:=h.ptr;have K:=h.pl;have M:=h.val;rw[<-VS];generalize l.length=n at *;clear h;go_enter Tryz.func138,Tryz.ntmps138;go_wp2_with fail;go_quiet (fail)
 go_wp2;go_ret;exact⟨qK (by first|rfl|simp),_,rfl⟩
theorem ZH(w:World)(c o tb fb cap:Nat)(v1:Value)(l:LI)(p:Nat)(h:Cq w c o tb fb cap v1 l p)(I:p<l.length):
 Cl 139 #[.pointer (some (az c o))] w λe w'=>e=.returned (ai (l.getD p 0))/\∃d,w'=w.drewN d:=by
 have K:=h.ptr;have M:=h.pl;have O:=h.val;have U:=h.own p I;have V:(p:Int)<(l.length:Int):=Oo;generalize l.getD p 0=x at *;generalize l.length=n at *;clear h;go_enter Tryz.func139,Tryz.ntmps139;go_wp2_with fail;go_quiet (fail)
 go_wp2;go_ret;exact⟨rfl,_,rfl⟩
theorem ZI(w:World)(c o tb fb cap gb n I:Nat)(l:LI)(p:Nat)(y:Value)(h:Cq w c o tb fb cap (.slice (some (az gb 0)) n I) l p)(K:p<n)(M:w.cell? (az gb p)=some y):
 Cl 140 #[.pointer (some (az c o))] w λe w'=>e=.returned y/\∃d,w'=w.drewN d:=by
 have O:=h.ptr;have U:=h.pl;have V:=h.bel;have i1:(p:Int)<(n:Int):=Oo;clear h;go_enter Tryz.func140,Tryz.ntmps140;go_wp2_with fail;go_quiet (fail)
 go_wp2;go_ret;exact⟨rfl,_,rfl⟩
theorem Cq.is_from{k:Nat}{v1:Value}(h:Cq w c o tb fb k v1 l p)(K:p<l.length)(cap:Nat):IS w (.slice (some (az fb p)) (l.length-p) cap) (l.drop p):=by
 refine⟨_,cap,by rw[List.length_drop],Or.inr ⟨fb,p,rfl,λj I=>?_⟩⟩;rw[List.length_drop]at I;rw[h.own (p+j) Oo,gD,gD,List.getElem?_drop]
theorem Z4(w:World)(c o tb fb cap:Nat)(v1:Value)(l:LI)(p:Nat)(g:Int)(h:Cq w c o tb fb cap v1 l p)(hl:l.length<=1099511627776)(M:l.length<=cap)(I:p<l.length)(K:Asc l):
 Cl 137 #[.pointer (some (az c o)),ai g] w λe w'=>(∃v,e=.returned v)/\∃d,w'=(w.drewN d).setCell (az c (o+1)) (ai (p+bsQ (l.drop p) g:Nat)):=by
 have U:=h.ptr;have V:=h.pl;have h3:=h.val;have h4:=h.fz;have hq:=(QG (Yr K p) g).1;rw[List.length_drop]at hq;have O:Hh (∀q cap,Cl 129 #[.slice (some (az fb p)) (l.length-p) cap,ai g] (w.drewN q) λe w'=>e=.returned (.tuple #[ai (bsQ (l.drop p) g),.bool (bsF (l.drop p) g)])/\∃d,w'=(w.drewN q).drewN d):=ay (λq cap=>
  QQ (w.drewN q) _ (l.drop p) g ((h.drewN q).is_from I cap) (by rw[List.length_drop];omega) (Yr K p))
 have i1:(p:Int)<=(l.length:Int):=Oo;generalize bsQ (l.drop p) g=k at *;generalize bsF (l.drop p) g=kf at *;generalize l.length=n at *;clear h K;go_enter Tryz.func137,Tryz.ntmps137;go_wp2_with fail;go_quiet ((go_at_call 129;exact Calls.quiet_of (O.o _ _)))
 go_wp2;go_end0
 exact⟨⟨_,rfl⟩,_,by rw[Int.natCast_add]⟩
theorem uZ(h:l.Pairwise (·< ·)):Asc l:=λi j I K=>by
 have:=List.pairwise_iff_getElem.1 h i j Oo K I;rw[gD,gD,gE Oo,gE K];exact this
theorem ZJ(I:Asc l)(M:x∈l):bsQ l x<l.length/\l.getD (bsQ l x) 0=x:=by
 obtain⟨V,O,U⟩:=QG (uW I) x;obtain⟨j,K,e⟩:=gO M;have ej:l.getD j 0=x:=by rw[gD,gE K,e];rfl
 have hq:bsQ l x<=j:=by
  rcases Nat.lt_or_ge j (bsQ l x)with h|h;have:=O j h;omega;exact h
 refine⟨Oo,?_⟩;have h4:=U (bsQ l x) (nR _) Oo;have h5:=uW I (bsQ l x) j hq K;omega
theorem qBS(I:x∉l)(h:bsQ l x<l.length):l.getD (bsQ l x) 0≠x:=λe=>I (by
 rw[<-e,gD,gE h];exact gM _)
def ISx(X:Value->Prop)(w:World)(v:Value)(l:LI):Prop:=ISc w v l/\X v
structure RSx(X:Value->Prop)(W0 W:World)(v:Value)(us:List Value)(ls:LL):Prop where
 sl:∃a cap,v=.slice a ls.length cap/\ls.length<=cap/\(ls.length=0∨∃b o,a=some (az b o)/\∀j,j<ls.length->W.cell? (az b (o+j))=some (us.getD j undef))
 len:us.length=ls.length
 each:∀i,i<ls.length->ISx X W0 (us.getD i undef) (ls.getD i [])
theorem RSx.below{X:Value->Prop}{us:List Value}(h:RSx X W0 W v us ls)(hb:Bl W W'):RSx X W0 W' v us ls:=by
 obtain⟨⟨a,cap,rfl,M,I⟩,O,U⟩:=h;refine⟨⟨a,cap,rfl,M,?_⟩,O,U⟩;rcases I with I|⟨b,o,rfl,I⟩;exact Or.inl I;exact Or.inr ⟨b,o,rfl,λj K=>(hb.cell (p:=(az b (o+j))) (bL W _ (I j K))).trans (I j K)⟩
theorem RSx.take{X:Value->Prop}{a:Option Addr}{us:List Value}(h:RSx X W0 W (.slice a n0 cap) us ls){n:Nat}(O:n<=ls.length):RSx X W0 W (.slice a n cap) (us.take n) (ls.take n):=by
 obtain⟨⟨U,K,e,V,I⟩,h2,M⟩:=h;simp only[Value.slice.injEq]at e;obtain⟨rfl,rfl,rfl⟩:=e;have hl:(ls.take n).length=n:=by rw[bW];omega
 refine⟨⟨a,cap,by rw[hl],Oo,?_⟩,by rw[hl,bW];omega,λi hi=>?_⟩
 ·rcases I with I|⟨b,o,rfl,I⟩;exact Or.inl Oo;exact Or.inr ⟨b,o,rfl,λj hj=>by rw[getD_take Oo];exact I j Oo⟩
 rw[getD_take Oo,getD_take Oo];exact M i Oo
theorem RSx.drop{X:Value->Prop}{b:Nat}{us:List Value}(h:RSx X W0 W (.slice (some (az b o)) n0 cap) us ls){n:Nat}(U:n<=ls.length):RSx X W0 W (.slice (some (az b (o+n))) (n0-n) (cap-n)) (us.drop n) (ls.drop n):=by
 obtain⟨⟨V,K,e,hc,I⟩,h2,O⟩:=h;simp only[Value.slice.injEq]at e;obtain⟨rfl,rfl,rfl⟩:=e;have hl:(ls.drop n).length=ls.length-n:=List.length_drop ..;refine⟨⟨_,_,by rw[hl],Oo,?_⟩,by rw[hl,List.length_drop];omega,λi hi=>?_⟩
 ·rcases I with I|⟨b',o',M,I⟩;exact Or.inl Oo;simp only[Option.some.injEq,Addr.mk.injEq,and_true]at M;obtain⟨rfl,rfl⟩:=M;exact Or.inr ⟨b,o+n,rfl,λj hj=>by rw[uY,Nat.add_assoc];exact I (n+j) Oo⟩
 rw[uY,uY];exact O (n+i) Oo
structure MSx(X:Value->Prop)(W0 W wr:World)(v:Value)(us:List Value)(ls:LL):Prop where
 bel:Bl W wr
 own:wr.ownsRow W.1.size 24 1 v ls.length us
 len:us.length=ls.length
 each:∀i,i<ls.length->ISx X W0 (us.getD i undef) (ls.getD i [])
theorem MSx.start(X:Value->Prop)(W0 W:World):MSx X W0 W (W.alloc (.cells #[] 24)) (.slice (some (az W.1.size 0)) 0 0) [] []:=
 ⟨aK,oM W #[] 0 (nR _) Dd rfl,rfl,λi hi=>by simp at hi⟩
theorem MSx.push{X:Value->Prop}{v' u:Value}{us:List Value}{o:Obj}(h:MSx X W0 W wr v us ls)(K:ISx X W0 u l)(I:w3.ownsRow W.1.size 24 1 v' (ls.length+1) (us++[u]))(M:(wr.alloc o).grownBy w3 v.ownBlock):MSx X W0 W w3 v' (us++[u]) (ls++[l]):=by
 refine⟨(h.bel.alloc h.bel.size o).grown M (by have:=h.bel.size;simp;omega) (λk O=>(h.own.lt k O).1),by rw[lA];exact I,by simp[h.len],λi hi=>?_⟩;rw[lA,lS]at hi;by_cases e:i<ls.length;rw[gD,aL (by rw[h.len];exact e),gD (l:=ls++[l]),aL e,<-gD,<-gD];exact h.each i e;have U:(us++[u]).getD i undef=u:=by rw[gD,bQ (by rw[h.len];omega),show i-us.length=0 by rw[h.len];omega];rfl
 have V:(ls++[l]).getD i []=l:=by rw[gD,bQ Oo,show i-ls.length=0 by omega];rfl
 rw[U,V];exact K
theorem MSx.rs{X:Value->Prop}{us:List Value}(h:MSx X W0 W wr v us ls):RSx X W0 wr v us ls:=by
 refine⟨?_,h.len,h.each⟩;rcases h.own.2 with ⟨rfl,I⟩|⟨g,cap,cur,rfl,M,O,I,K,-,U⟩;exact⟨none,0,by rw[I],Oo,Or.inl I⟩;refine⟨_,cap,rfl,?_,Or.inr ⟨g,0,rfl,λj V=>?_⟩⟩;exact I;have hlen:=h.len;rw[Nat.zero_add,cell_of_row _ _ _ _ _ _ O,gD,gE Oo,Option.getD_some,<-gE (by omega:j<us.length),<-U,List.getElem?_take_of_lt Oo,Array.getElem?_toList]
theorem MSx.drewN{X:Value->Prop}{us:List Value}(h:MSx X W0 W wr v us ls)(n:Nat):MSx X W0 W (wr.drewN n) v us ls:=⟨⟨h.bel.os,h.bel.tape,h.bel.output,h.bel.size,h.bel.block⟩,h.own,h.len,h.each⟩
theorem uj(X:Value->Prop)(W0:World):∀(n:Nat) (W:World) (v:Value) (us:List Value) (ls:LL),ls.length<=n->Bl W0 W->RSx X W0 W v us ls->ls.length<=100000->(∀r∈ls,r.length<=1099511627776)->
 Cl 22 #[v] W λe w'=>∃v' a4,e=.returned v'/\RSx X W0 w' v' a4 (srt ls)/\qEw W v v'/\Bl W w':=by
 intro n;induction n with
 |zero=>
  intro W v us ls hn hB h hl hM;have HR:=ay h;obtain⟨⟨a,cap,rfl,-⟩,-,-⟩:=h;have e0:ls.length=0:=Oo;have hS:srt ls=ls:=uX Oo;rw[hS];rw[e0]at HR ⊢;go_enter Tryz.func22,Tryz.ntmps22;go_wp2;go_ret;exact⟨_,us,rfl,HR.o,Or.inl rfl,bJ _ _⟩
 |succ n ih=>
  intro W v us ls hn hB h hl hM;by_cases h2:ls.length<2
  ·have HR:=ay h;obtain⟨⟨a,cap,rfl,-⟩,-,-⟩:=h;have hS:srt ls=ls:=uX h2;rw[hS];have i1:(ls.length:Int)<2:=Oo;go_enter Tryz.func22,Tryz.ntmps22;go_wp2;go_ret;exact⟨_,us,rfl,HR.o,Or.inl rfl,bJ _ _⟩
  rw[XY h2];have HR:=ay h;obtain⟨⟨a,cap,rfl,d7,hc⟩,-,-⟩:=h;obtain⟨b,o,rfl,-⟩:∃b o,a=some (az b o)/\∀j,j<ls.length->W.cell? (az b (o+j))=some (us.getD j undef):=by
   rcases hc with h0|h0;omega;exact h0
  clear hc;obtain⟨N,hN⟩:=Ex ls.length;have KA:Hh (∀w1,Bl W w1->Cl 22 #[.slice (some (az b o)) (N / 2) cap] w1 λe w'=>∃v' a4,e=.returned v'/\RSx X W0 w' v' a4 (srt (ls.take (N / 2)))/\Bl w1 w'):=ay λw1 hb=>(
   ih w1 _ (us.take (N / 2)) (ls.take (N / 2)) (by rw[bW];omega) (bt hB hb) ((HR.o.below hb).take Oo) (by rw[bW];omega) (λr hr=>hM r (List.mem_of_mem_take hr))).mono λe w' ⟨v',a4,h1,h2,_,h3⟩=>⟨v',a4,h1,h2,h3⟩
  have KB:Hh (∀w1,Bl W w1->Cl 22 #[.slice (some (az b (o+N / 2))) (N-N / 2) (cap-N / 2)] w1 λe w'=>∃v' a4,e=.returned v'/\RSx X W0 w' v' a4 (srt (ls.drop (N / 2)))/\Bl w1 w'):=ay λw1 hb=>by
   have:=ih w1 (.slice (some (az b (o+N / 2))) (N-N / 2) (cap-N / 2)) (us.drop (N / 2)) (ls.drop (N / 2)) (by rw[List.length_drop];omega) (bt hB hb) (by rw[hN];exact(HR.o.below hb).drop Oo) (by rw[List.length_drop];omega) (λr hr=>hM r (List.mem_of_mem_drop hr));exact this.mono λe w' ⟨v',a4,h1,h2,_,h3⟩=>⟨v',a4,h1,h2,h3⟩
  have e4:Hh (∀r∈srt (ls.take (N / 2)),r.length<=1099511627776):=ay λr hr=>hM r (List.mem_of_mem_take (((zu _ (ls.take (N / 2)) (nR _)).2 r).1 hr));have e5:Hh (∀r∈srt (ls.drop (N / 2)),r.length<=1099511627776):=ay λr hr=>hM r (List.mem_of_mem_drop (((zu _ (ls.drop (N / 2)) (nR _)).2 r).1 hr));have h4:(srt (ls.take (N / 2))).length<=100000:=bM (xT _ _ (nR _)) (by rw[bW];omega);have h5:(srt (ls.drop (N / 2))).length<=100000:=bM (xT _ _ (nR _)) (by rw[List.length_drop];omega);rw[<-hN]at d7 hl h2 ⊢;have q2:¬((N:Int)<2):=Oo;have q5:¬cap=N / 2:=Oo;have q6:N / 2<=cap:=Oo;have q7:N / 2<=N:=Oo;have HB:=ay hB;clear ih hn HR hM hN hB;generalize srt (ls.take (N / 2))=la at *;generalize srt (ls.drop (N / 2))=lb at *;clear us;go_enter Tryz.func22,Tryz.ntmps22;go_wp2_with fail;refine(KA.o W (bJ _ _)).mono ?_;rintro e w1 ⟨va,ua,rfl,e6,e7⟩;have d9:=ay e6;have c9:=ay e7;clear e6 e7 KA;go_wp2_with fail;refine(KB.o w1 c9.o).mono ?_;rintro e w2 ⟨vb,ub,rfl,e8,d0⟩;have d8:=ay (d9.o.below d0);have e9:=ay e8;have f7:=ay (bt HB.o (bt c9.o d0));have f8:=ay (bt c9.o d0);obtain⟨⟨aa,ca,rfl,-,-⟩,-,-⟩:=d9.o;obtain⟨⟨ab,cb,rfl,-,-⟩,-,-⟩:=e8;clear d0 KB d9 c9 HB q2 q5 q6 q7 d7 h2;have f9:=ay (MSx.start X W0 w2);have g4:Hh (∀W,Bl w2 W->∀i,i<la.length->∃b o u,aa=some (az b o)/\W.cell? (az b (o+i))=some u/\ISx X W0 u (la.getD i [])):=ay λW hW i hi=>by
   obtain⟨⟨a',c',e,-,h1⟩,-,h3⟩:=d8.o.below hW;simp only[Value.slice.injEq]at e;obtain⟨rfl,-,-⟩:=e;rcases h1 with h1|⟨b',o',rfl,h1⟩;omega;exact⟨b',o',_,rfl,h1 i hi,h3 i hi⟩
  have e1:Hh (∀W,Bl w2 W->∀i,i<lb.length->∃b o u,ab=some (az b o)/\W.cell? (az b (o+i))=some u/\ISx X W0 u (lb.getD i [])):=ay λW hW i hi=>by
   obtain⟨⟨a',c',e,-,h1⟩,-,h3⟩:=e9.o.below hW;simp only[Value.slice.injEq]at e;obtain⟨rfl,-,-⟩:=e;rcases h1 with h1|⟨b',o',rfl,h1⟩;omega;exact⟨b',o',_,rfl,h1 i hi,h3 i hi⟩
  have KC:Hh (∀W i j u v,Bl w2 W->i<la.length->j<lb.length->ISx X W0 u (la.getD i [])->ISx X W0 v (lb.getD j [])->Cl 48 #[u,v] W λe w'=>e=.returned (ai (qE (la.getD i []) (lb.getD j [])))/\∃q,w'=W.drewN q):=ay λW i j u v hW hi hj hu hv=>
   zL W u v _ _ (hu.1.1.below (bt f7.o hW)) (hv.1.1.below (bt f7.o hW)) (e4.o _ (by rw[gD,gE hi];exact gM _)) (e5.o _ (by rw[gD,gE hj];exact gM _))
  have HM:Hh (∀i j,i<la.length->j<lb.length->la.drop i=la.getD i []::la.drop (i+1)/\lb.drop j=lb.getD j []::lb.drop (j+1)):=ay λi j hi hj=>⟨drop_cons hi,drop_cons hj⟩;have a8:Hh (∀i,i<la.length->la.drop i=la.getD i []::la.drop (i+1)):=ay λi hi=>drop_cons hi;have a9:Hh (∀i,i<lb.length->lb.drop i=lb.getD i []::lb.drop (i+1)):=ay λi hi=>drop_cons hi;have d3:Hh (∀i,¬i<la.length->la.drop i=[]):=ay λi hi=>K8 hi;have d4:Hh (∀i,¬i<lb.length->lb.drop i=[]):=ay λi hi=>K8 hi;have h6:Hh (∀lo i j,lo++mrg (la.drop i) (lb.drop j)=mrg la lb->lo.length<=200000):=ay λlo i j h=>by
   have:=yi _ la lb (nR _);rw[<-h,lA]at this;omega
  clear d8 e9 e4 e5 HM;obtain⟨na,g5⟩:=Ex la.length;obtain⟨nb,g6⟩:=Ex lb.length;rw[<-g5]at g4 KC a8 d3 h4 ⊢;rw[<-g6]at e1 KC a9 d4 h5 ⊢;clear g5 g6;obtain⟨iS,hj,b0,b7,b8⟩:=info_parts Tryz.infoIS;go_wp2_with fail;go_loopw [5,6,7] (λt5 t6 t7 wr=>∃(i j:Nat) (vo:Value),i<=na/\j<=nb/\t6=ai i/\t7=ai j/\vo=t5/\Hh (∃uo lo,lo++mrg (la.drop i) (lb.drop j)=mrg la lb/\MSx X W0 w2 wr vo uo lo)) (λ_ t6 t7 _=>(na-(intOf t6).toNat)+(nb-(intOf t7).toNat));exact⟨0,0,_,nZ _,nZ _,rfl,rfl,rfl,ay ⟨[],[],Ss,f9.o⟩⟩;clear f9;obtain⟨i,j,vo,hi,j4,rfl,rfl,rfl,HT⟩:=hrel;obtain⟨uo,lo,e2,g7⟩:=HT.o;have a5:=ay e2;have O:=ay g7;have hlen:=h6.o lo i j e2;clear HT e2 g7;by_cases a3:i<na
  ·have i1:(i:Int)<(na:Int):=Oo;have i3:¬((i:Int)=(na:Int)):=Oo;have i7:((i:Int) == (na:Int))=false:=Sy;have i8:¬(i=na):=Oo;obtain⟨b1,o1,u1,ea,c1,g8⟩:=g4.o wr O.o.bel i a3;subst ea;have d5:=ay g8;obtain⟨⟨⟨a1,k1,rfl,-⟩,-⟩,-⟩:=g8;by_cases V:j<nb
   ·have i2:(j:Int)<(nb:Int):=Oo;have i4:¬((j:Int)=(nb:Int)):=Oo;have i5:((j:Int) == (nb:Int))=false:=Sy;have i6:¬(j=nb):=Oo;obtain⟨b2,o2,u2,ea,c2,b9⟩:=e1.o wr O.o.bel j V;subst ea;have d6:=ay b9;obtain⟨⟨⟨a2,k2,rfl,-⟩,-⟩,-⟩:=b9;have c7:Hh (∀W,Bl w2 W->Cl 48 #[.slice a1 (la.getD i []).length k1,.slice a2 (lb.getD j []).length k2] W λe w'=>e=.returned (ai (qE (la.getD i []) (lb.getD j [])))/\∃q,w'=W.drewN q):=ay λW hW=>KC.o W i j _ _ hW a3 V d5.o d6.o;have h7:Hh (qE (la.getD i []) (lb.getD j [])<0->lo++[la.getD i []]++mrg (la.drop (i+1)) (lb.drop j)=mrg la lb):=ay λhc=>by
     have h:=a5.o;rw[a8.o i a3,a9.o j V,YX hc,<-a9.o j V]at h;rw[List.append_assoc];exact h
    have h8:Hh (0<qE (la.getD i []) (lb.getD j [])->lo++[lb.getD j []]++mrg (la.drop i) (lb.drop (j+1))=mrg la lb):=ay λhc=>by
     have h:=a5.o;rw[a8.o i a3,a9.o j V,YY hc,<-a8.o i a3]at h;rw[List.append_assoc];exact h
    have h9:Hh (¬qE (la.getD i []) (lb.getD j [])<0->¬0<qE (la.getD i []) (lb.getD j [])->lo++[la.getD i []]++mrg (la.drop (i+1)) (lb.drop (j+1))=mrg la lb):=ay λh1 h2=>by
     have h:=a5.o;rw[a8.o i a3,a9.o j V,YZ h1 h2]at h;rw[List.append_assoc];exact h
    generalize qE (la.getD i []) (lb.getD j [])=cc at *;generalize (la.getD i []).length=m1 at *;generalize (lb.getD j []).length=m2 at *;clear KC a5;have e3:Hh (∀q,Bl w2 (wr.drewN q)):=ay λq=>(O.o.drewN q).bel;have g9:Hh (∀n q,Bl w2 ((wr.drewN n).drewN q)):=ay λn q=>((O.o.drewN n).drewN q).bel;by_cases h1:cc<0
    ·have i0:decide (cc<0)=true:=by simp[h1]
     go_upto_region 12 with fail;go_quiet (first|(go_at_call 48;exact Calls.quiet_of (c7.o _ (e3.o _))))
     have I:=ay (O.o.drewN nq);go_wp2_with (first|(at_builtin;refine wpList_append_lies _ rfl _ _ 23 rfl w2.1.size 24 iS sn 1 24 Tryz.underlying23 hj b0 b7 b8 rfl Dd vo _ uo rfl (I.o.own.alloc _) (az _ 0) 1 1 [.slice a1 m1 k1] rfl rfl (qH _ _ _) (λu hu=>by simp at hu;subst hu;rfl) Dd Um Oo (by have:=I.o.bel.size;simp at this ⊢;omega) _ rfl ?_;intro g3 cp3 w3 M K a6 a7)|fail);go_roundw;exact⟨i+1,j,_,Oo,Oo,Gg,rfl,rfl,ay ⟨_,_,h7.o h1,I.o.push d5.o M K⟩⟩;exact Im
    have i0:decide (cc<0)=false:=Sy;by_cases h2:0<cc
    ·have j0:decide (0<cc)=true:=by simp[h2]
     go_upto_region 12 with fail;go_quiet (first|(go_at_call 48;exact Calls.quiet_of (c7.o _ (e3.o _))))
     go_upto_region 15 with fail;have U:=ay (O.o.drewN nq);have c8:Hh (∀q,Bl w2 ((wr.drewN nq).drewN q)):=ay λq=>g9.o nq q;have d1:(wr.drewN nq).cell? (az b1 (o1+i))=some (.slice a1 m1 k1):=c1;have d2:(wr.drewN nq).cell? (az b2 (o2+j))=some (.slice a2 m2 k2):=c2;generalize wr.drewN nq=W5 at U c8 d1 d2 ⊢;go_quiet (first|(go_at_call 48;exact Calls.quiet_of (c7.o _ (c8.o _))))
     have I:=ay (U.o.drewN nq);go_wp2_with (first|(at_builtin;refine wpList_append_lies _ rfl _ _ 23 rfl w2.1.size 24 iS sn 1 24 Tryz.underlying23 hj b0 b7 b8 rfl Dd vo _ uo rfl (I.o.own.alloc _) (az _ 0) 1 1 [.slice a2 m2 k2] rfl rfl (qH _ _ _) (λu hu=>by simp at hu;subst hu;rfl) Dd Um Oo (by have:=I.o.bel.size;simp at this ⊢;omega) _ rfl ?_;intro g3 cp3 w3 M K a6 a7)|fail);go_roundw;exact⟨i,j+1,_,Oo,Oo,rfl,Gg,rfl,ay ⟨_,_,h8.o h2,I.o.push d6.o M K⟩⟩;exact Im
    have j0:decide (0<cc)=false:=Sy;go_upto_region 12 with fail;go_quiet (first|(go_at_call 48;exact Calls.quiet_of (c7.o _ (e3.o _))))
    go_upto_region 15 with fail;have U:=ay (O.o.drewN nq);have c8:Hh (∀q,Bl w2 ((wr.drewN nq).drewN q)):=ay λq=>g9.o nq q;have d1:(wr.drewN nq).cell? (az b1 (o1+i))=some (.slice a1 m1 k1):=c1;have d2:(wr.drewN nq).cell? (az b2 (o2+j))=some (.slice a2 m2 k2):=c2;generalize wr.drewN nq=W5 at U c8 d1 d2 ⊢;go_quiet (first|(go_at_call 48;exact Calls.quiet_of (c7.o _ (c8.o _))))
    have I:=ay (U.o.drewN nq);go_wp2_with (first|(at_builtin;refine wpList_append_lies _ rfl _ _ 23 rfl w2.1.size 24 iS sn 1 24 Tryz.underlying23 hj b0 b7 b8 rfl Dd vo _ uo rfl (I.o.own.alloc _) (az _ 0) 1 1 [.slice a1 m1 k1] rfl rfl (qH _ _ _) (λu hu=>by simp at hu;subst hu;rfl) Dd Um Oo (by have:=I.o.bel.size;simp at this ⊢;omega) _ rfl ?_;intro g3 cp3 w3 M K a6 a7)|fail);go_roundw;exact⟨i+1,j+1,_,Oo,Oo,Gg,Gg,rfl,ay ⟨_,_,h9.o h1 h2,I.o.push d5.o M K⟩⟩;exact Im
   obtain rfl:j=nb:=Oo;have HN:Hh (lo++[la.getD i []]++mrg (la.drop (i+1)) (lb.drop j)=mrg la lb):=ay (by
    have h:=a5.o;rw[d4.o j V,yA,a8.o i a3]at h;rw[d4.o j V,yA,List.append_assoc];exact h)
   generalize (la.getD i []).length=m1 at *;go_upto_region 12 with fail;go_quiet (fail)
   have I:=ay (O.o.drewN nq);go_wp2_with (first|(at_builtin;refine wpList_append_lies _ rfl _ _ 23 rfl w2.1.size 24 iS sn 1 24 Tryz.underlying23 hj b0 b7 b8 rfl Dd vo _ uo rfl (I.o.own.alloc _) (az _ 0) 1 1 [.slice a1 m1 k1] rfl rfl (qH _ _ _) (λu hu=>by simp at hu;subst hu;rfl) Dd Um Oo (by have:=I.o.bel.size;simp at this ⊢;omega) _ rfl ?_;intro g3 cp3 w3 M K a6 a7)|fail);go_roundw;exact⟨i+1,j,_,Oo,Oo,Gg,rfl,rfl,ay ⟨_,_,HN.o,I.o.push d5.o M K⟩⟩;exact Im
  obtain rfl:i=na:=Oo;have i1:¬((i:Int)<(i:Int)):=Oo;by_cases V:j<nb
  ·have i2:(j:Int)<(nb:Int):=Oo;have i4:¬((j:Int)=(nb:Int)):=Oo;have i5:((j:Int) == (nb:Int))=false:=Sy;have i6:¬(j=nb):=Oo;obtain⟨b2,o2,u2,ea,c2,b9⟩:=e1.o wr O.o.bel j V;subst ea;have d6:=ay b9;obtain⟨⟨⟨a2,k2,rfl,-⟩,-⟩,-⟩:=b9;have HN:Hh (lo++[lb.getD j []]++mrg (la.drop i) (lb.drop (j+1))=mrg la lb):=ay (by
    have h:=a5.o;rw[d3.o i a3,xq,a9.o j V]at h;rw[d3.o i a3,xq,List.append_assoc];exact h)
   have i9:decide ((i:Int)<(i:Int))=false:=Ss;generalize (lb.getD j []).length=m2 at *;go_upto_region 12 with fail;go_quiet (fail)
   go_upto_region 15 with fail;have U:=ay (O.o.drewN nq);have d2:(wr.drewN nq).cell? (az b2 (o2+j))=some (.slice a2 m2 k2):=c2;generalize wr.drewN nq=W5 at U d2 ⊢;go_quiet (fail)
   have I:=ay (U.o.drewN nq);go_wp2_with (first|(at_builtin;refine wpList_append_lies _ rfl _ _ 23 rfl w2.1.size 24 iS sn 1 24 Tryz.underlying23 hj b0 b7 b8 rfl Dd vo _ uo rfl (I.o.own.alloc _) (az _ 0) 1 1 [.slice a2 m2 k2] rfl rfl (qH _ _ _) (λu hu=>by simp at hu;subst hu;rfl) Dd Um Oo (by have:=I.o.bel.size;simp at this ⊢;omega) _ rfl ?_;intro g3 cp3 w3 M K a6 a7)|fail);go_roundw;exact⟨i,j+1,_,Oo,Oo,rfl,Gg,rfl,ay ⟨_,_,HN.o,I.o.push d6.o M K⟩⟩;exact Im
  obtain rfl:j=nb:=Oo;have i2:¬((j:Int)<(j:Int)):=Oo;have HN:Hh (lo=mrg la lb):=ay (by
   have h:=a5.o;rw[d3.o i a3,d4.o j V,xq,List.append_nil]at h;exact h)
  have j1:=ay O.o.rs;have j2:=ay (bt f8.o O.o.bel);have j3:Hh (∀g,vo.ownBlock=some g->W.1.size<=g):=ay λg hg=>bM f8.o.size (O.o.own.lt g hg).1;obtain⟨⟨ao,co,rfl,-⟩,-,-⟩:=O.o.rs;clear O a5;go_wp2_with fail;go_ret;refine⟨_,rfl,⟨uo,?_⟩,Or.inr j3.o,j2.o⟩;rw[<-HN.o];exact j1.o
def ApW(u v:Value):Prop:=∀g,u.ownBlock=some g->v.ownBlock≠some g
theorem qG{n s:Nat}{e:TypeId}(h:w.ownsRow B e s v n xs):∃a cap,v=.slice a n cap:=by
 rcases h.2 with ⟨rfl,I⟩|⟨g,cap,cur,rfl,-⟩;exact⟨none,0,by rw[I]⟩;exact⟨_,cap,rfl⟩
structure TW(W:World)(B:Nat)(v0 v1 v2:Value)(us:List Value)(vs:LI)(rows:LL)(ws:LI):Prop where
 o0:W.ownsRow B 3 1 v0 vs.length (vs.map ai)
 rq:RQ W B v1 us rows
 o2:W.ownsRow B 3 1 v2 ws.length (ws.map ai)
 a02:ApW v0 v2
 a0:∀i,i<rows.length->ApW (us.getD i undef) v0
 a2:∀i,i<rows.length->ApW (us.getD i undef) v2
theorem TW.below{v0 v1 v2:Value}{us:List Value}{vs ws:LI}{rows:LL}(h:TW W B v0 v1 v2 us vs rows ws)(hb:Bl W W'):TW W' B v0 v1 v2 us vs rows ws:=
 ⟨qB h.o0 hb,h.rq.below hb,qB h.o2 hb,h.a02,h.a0,h.a2⟩
theorem TW.base{v0 v1 v2:Value}{us:List Value}{vs ws:LI}{rows:LL}(h:TW W B v0 v1 v2 us vs rows ws)(hB:B'<=B):TW W B' v0 v1 v2 us vs rows ws:=
 ⟨qF h.o0 hB,h.rq.base hB,qF h.o2 hB,h.a02,h.a0,h.a2⟩
structure TbR where
 v0:Value
 v1:Value
 v2:Value
 us:List Value
 vs:LI
 rows:LL
 ws:LI
def qY:TbR:=⟨undef,undef,undef,[],[],[],[]⟩
def tcs(t:TbR):List Value:=[t.v0,t.v1,t.v2]
def bls(t:TbR):List Value:=t.v0::t.v2::t.us
def TWr(W:World)(B:Nat)(t:TbR):Prop:=TW W B t.v0 t.v1 t.v2 t.us t.vs t.rows t.ws
theorem TWr.lt{t:TbR}(h:TWr W B t){x:Value}(I:x∈bls t){g:Nat}(K:x.ownBlock=some g):B<=g/\g<W.1.size:=by
 rcases List.mem_cons.1 I with rfl|I;exact h.o0.lt g K;rcases List.mem_cons.1 I with rfl|I;exact h.o2.lt g K;obtain⟨i,hi,rfl⟩:=gO I;have M:i<t.rows.length:=by rw[<-h.rq.len];exact hi
 have:=(h.rq.each i M).lt g (by rw[gD,gE hi];exact K);exact this
structure TBs(W:World)(B:Nat)(v:Value)(tl:List TbR):Prop where
 own:W.ownsRow B 61 3 v tl.length (tl.flatMap tcs)
 each:∀t∈tl,TWr W B t
 ap:tl.Pairwise λs t=>∀x∈bls s,∀y∈bls t,ApW x y
theorem TBs.below{tl:List TbR}(h:TBs W B v tl)(hb:Bl W W'):TBs W' B v tl:=
 ⟨qB h.own hb,λt I=>TW.below (h.each t I) hb,h.ap⟩
theorem TBs.base{tl:List TbR}(h:TBs W B v tl)(hB:B'<=B):TBs W B' v tl:=
 ⟨qF h.own hB,λt I=>TW.base (h.each t I) hB,h.ap⟩
theorem TW.grownT{n:Nat}{o:Obj}{t:TbR}(h:TWr W B t)(ho:W.ownsRow B' 61 3 v n xs)(O:(W.alloc o).grownBy w3 v.ownBlock):TWr w3 B t:=by
 have hint:∀{x:Value} {k B':Nat} {xs:List Value},W.ownsRow B' 3 1 x k xs->w3.ownsRow B' 3 1 x k xs:=λK=>
  qC K λg I=>zR O (K.lt g I).2 (own_ne ho (qN K I) Dd)
 have M:∀{x:Value} {k B':Nat} {xs:List Value},W.ownsRow B' 24 1 x k xs->w3.ownsRow B' 24 1 x k xs:=λK=>
  qC K λg I=>zR O (K.lt g I).2 (own_ne ho (qN K I) Dd)
 exact⟨hint h.o0,⟨M h.rq.own,h.rq.len,λi hi=>hint (h.rq.each i hi),h.rq.ap⟩,hint h.o2,h.a02,h.a0,h.a2⟩
theorem TBs.row{tl:List TbR}(h:TBs W0 B v tl)(hB:B<=W0.1.size):∀(W:World) (t:TbR) (o:Obj) (w3:World) (v':Value),Bl W0 W->TWr W W0.1.size t->(W.alloc o).grownBy w3 v.ownBlock->w3.ownsRow B 61 3 v' (tl.length+1) (tl.flatMap tcs++[t.v0,t.v1,t.v2])->TBs w3 B v' (tl++[t]):=by
 intro W t o w3 v' hb M O I;have ho:=qB h.own hb;refine⟨?_,λs hs=>?_,?_⟩;rw[lA,List.flatMap_append];exact I
 ·rcases List.mem_append.1 hs with hs|hs;exact TW.grownT (TW.below (h.each s hs) hb) ho O;rw[List.mem_singleton.1 hs];exact TW.base (TW.grownT M ho O) hB
 refine List.pairwise_append.2 ⟨h.ap,List.pairwise_singleton _ _,λs hs t' K x V y U g h1 h2=>?_⟩;rw[List.mem_singleton.1 K]at U;have h3:=((h.each s hs).lt V h1).2;have h4:=(M.lt U h2).1;omega
theorem xd(w:World)(x y z:Value)(t:TypeId):∀j u,[x,y,z][j]?=some u->(w.alloc (.cells #[x,y,z] t)).cell? (((az w.1.size 0):Addr).add j)=some u:=by
 intro j u I;have e:((az w.1.size 0):Addr).add j=(az w.1.size j):=by unfold Addr.add;by_cases K:j=0 <;> simp[K]
 rw[e,bE _ _ _ _ rfl];match j,I with
 |0,I=>simpa using I
 |1,I=>simpa using I
 |2,I=>simpa using I
 |j+3,I=>simp at I
theorem Tryz.infoTb:(Tryz.prog.info? 61).map (λi=>(i.zero,i.size,i.bytes))=some (some (.agg #[sn,sn,sn]),3,72):=Kl
structure TvOk(t:TbV):Prop where
 vs:t.vs.length<=6
 n:t.rows.length<=10000
 ws:t.ws.length<=10000
 len:∀r∈t.rows,r.length<=6
def tvB(t:TbR):TbV:=⟨t.vs,t.rows,t.ws⟩
theorem TBs.its{tl:List TbR}(h:TBs W B v tl):ITs W v (tl.map tvB):=by
 obtain⟨a,cap,e,K⟩:=XZ tcs (λ_=>rfl) qY h.own;refine⟨a,cap,by rw[lM];exact e,?_⟩;rcases K with O|⟨g,U,-,K⟩;exact Or.inl (by rw[lM];exact O);refine Or.inr ⟨g,0,U,λj I=>?_⟩;rw[lM]at I;have M:TWr W B (tl.getD j qY):=h.each _ (by rw[gD,gE I];exact gM _);have V:(tl.map tvB).getD j qA=tvB (tl.getD j qY):=by
  rw[gD,gD,bK,gE I];rfl
 rw[V,Nat.zero_add];exact⟨_,_,_,K j 0 I Oo,K j 1 I Oo,K j 2 I Oo,qS M.o0,M.rq.rs.iss (bJ _ _),qS M.o2⟩
theorem TvOk.s{t:TbV}(h:TvOk t):TvS t:=⟨by have:=h.vs;omega,⟨by have:=h.n;omega,λi=>by
 rw[gD];cases e:t.rows[i]? with
 |none=>exact nZ _
 |some r=>have:=h.len r (List.mem_of_getElem? e);show r.length<=_;omega⟩,by have:=h.ws;omega⟩
theorem qAn(w:World)(v u:Value)(I:List TbV)(h:ITs w v I)(M:ITs w u I)(K:I.length<=1048576)(O:∀j,j<I.length->TvOk (I.getD j qA)):
 Cl 10 #[v,u] w λe w'=>e=.returned (.bool true)/\Bl w w':=QS w v u I h M K λj U=>(O j U).s
end Go.Proofs.YtcnfapnfmnolbaaGreat
