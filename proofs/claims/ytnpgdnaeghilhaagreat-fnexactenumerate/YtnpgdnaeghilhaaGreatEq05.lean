import Derived.Test.YtnpgdnaeghilhaaGreatEq03
import Derived.Test.YtnpgdnaeghilhaaGreatEq04
set_option maxHeartbeats 40000000
set_option maxRecDepth 1000000
namespace Go.Proofs.YtnpgdnaeghilhaaGreat
open Go.Proofs.Tryz Go.RowKit
variable {ls rows:LL}{us:LV}{cap n n0 b o B:Nat}{v v' u vr:Value}{W W0 wr W' w3 w:World}{X:Value->Prop}{g0 g1:LI->Value}
def ISx(X:Value->Prop)(w:World)(v:Value)(l:LI):Prop:=ISc w v l/\X v
structure RSx(X:Value->Prop)(W0 W:World)(v:Value)(us:LV)(ls:LL):Prop where
 sl:∃a cap,v=.slice a ls.length cap/\ls.length<=cap/\(ls.length=0\/∃b o,a=some (az b o)/\∀j,j<ls.length->W.cell? (az b (o+j))=some (us.getD j undef))
 len:us.length=ls.length
 each:∀i,i<ls.length->ISx X W0 (us.getD i undef) (ls.getD i [])
theorem RSx.below(h:RSx X W0 W v us ls)(hb:Bl W W'):RSx X W0 W' v us ls:=by
 obtain⟨⟨a,cap,rfl,M,I⟩,O,V⟩:=h;refine⟨⟨a,cap,rfl,M,?_⟩,O,V⟩;rcases I with I|⟨b,o,rfl,I⟩;exact .inl I;exact .inr ⟨b,o,rfl,λj K=>(hb.cell (bL W _ (I j K))).trans (I j K)⟩
theorem RSx.issc(h:RSx X W0 W v us ls)(hb:Bl W0 W):ISSc W v ls:=by
 obtain⟨⟨a,cap,rfl,O,I⟩,V,M⟩:=h;refine⟨a,cap,rfl,?_⟩;rcases I with I|⟨b,o,rfl,I⟩;exact .inl I;exact .inr ⟨b,o,rfl,λj K=>⟨_,I j K,(M j K).1.below hb⟩⟩
theorem RSx.take{a:OA}(h:RSx X W0 W (.slice a n0 cap) us ls)(O:n<=ls.length):RSx X W0 W (.slice a n cap) (us.take n) (ls.take n):=by
 have⟨⟨V,K,e,hc,I⟩,h2,M⟩:=h;simp only[vI]at e;obtain⟨rfl,rfl,rfl⟩:=e;have hl:(ls.take n).length=n:=by rw[bZ];omega
 refine⟨⟨a,cap,by rw[hl],Oo,?_⟩,by rw[hl,bZ];omega,λi hi=>?_⟩
 .rcases I with I|⟨b,o,rfl,I⟩;exact .inl Oo;exact .inr ⟨b,o,rfl,λj hj=>by rw[getD_take Oo];exact I j Oo⟩
 rw[getD_take Oo,getD_take Oo];exact M i Oo
theorem RSx.drop(h:RSx X W0 W (sZ b o n0 cap) us ls)(V:n<=ls.length):RSx X W0 W (sZ b (o+n) (n0-n) (cap-n)) (us.drop n) (ls.drop n):=by
 have⟨⟨a',K,e,hc,I⟩,h2,O⟩:=h;simp only[vI]at e;obtain⟨rfl,rfl,rfl⟩:=e;have hl:(ls.drop n).length=ls.length-n:=dP ..;refine⟨⟨_,_,by rw[hl],Oo,?_⟩,by rw[hl,dP];omega,λi hi=>?_⟩
 .rcases I with I|⟨b',o',M,I⟩;exact .inl Oo;simp only[oI,Addr.mk.injEq,and_true]at M;obtain⟨rfl,rfl⟩:=M;exact .inr ⟨b,o+n,rfl,λj hj=>by rw[jO,Nat.add_assoc];exact I _ Oo⟩
 rw[jO,jO];exact O _ Oo
structure MSx(X:Value->Prop)(W0 W wr:World)(v:Value)(us:LV)(ls:LL):Prop where
 bel:Bl W wr
 own:wr.ownsRow W.1.size 24 1 v ls.length us
 len:us.length=ls.length
 each:∀i,i<ls.length->ISx X W0 (us.getD i undef) (ls.getD i [])
theorem MSx.start X W0 W:MSx X W0 W (W.alloc (.cells #[] 24)) (sZ W.1.size 0 0 0) [] []:=
 ⟨aK,oM W _ 0 eA Dd rfl,rfl,λi hi=>by simp at hi⟩
theorem MSx.push{l o}(h:MSx X W0 W wr v us ls)(K:ISx X W0 u l)(I:w3.ownsRow W.1.size 24 1 v' (ls.length+1) (us++[u]))(M:(wr.alloc o).grownBy w3 v.ownBlock):MSx X W0 W w3 v' (us++[u]) (ls++[l]):=by
 refine⟨(h.bel.alloc h.bel.size o).grown M (by have:=h.bel.size;simp;omega) (λk O=>(h.own.lt k O).1),by rw[lA];exact I,by simp[h.len],λi hi=>?_⟩;rw[lA,lS]at hi;by_cases e:i<ls.length;rw[gD,aL (by rw[h.len];exact e),gD (l:=ls++[l]),aL e,<-gD,<-gD];exact h.each i e;have V:(us++[u]).getD i undef=u:=by rw[gD,bQ (by rw[h.len];omega),show i-us.length=0 by rw[h.len];omega];rfl
 have e2:(ls++[l]).getD i []=l:=by rw[gD,bQ Oo,show i-ls.length=0 by omega];rfl
 rw[V,e2];exact K
theorem MSx.rs(h:MSx X W0 W wr v us ls):RSx X W0 wr v us ls:=by
 refine⟨?_,h.len,h.each⟩;rcases h.own.2 with ⟨rfl,I⟩|⟨g,cap,cur,rfl,hb',M,I,K,-,O⟩;exact⟨none,0,by rw[I],Oo,.inl I⟩;refine⟨_,cap,rfl,?_,.inr ⟨g,0,rfl,λj V=>?_⟩⟩;exact I;have hlen:=h.len;rw[cU,eI M,gD,gE Oo,dI,<-gE (by omega:j<us.length),<-O,cL Oo,dY]
theorem MSx.drewN(h:MSx X W0 W wr v us ls)n:MSx X W0 W (wr.drewN n) v us ls:=⟨⟨h.bel.os,h.bel.tape,h.bel.output,h.bel.size,h.bel.block⟩,h.own,h.len,h.each⟩
theorem ZQ:∀n W v us ls,ls.length<=n->Bl W0 W->RSx X W0 W v us ls->ls.length<=100000->(∀r∈ls,r.length<=1099511627776)->
 Cl 44 #[v] W λe w'=>∃v' a5,e=.returned v'/\RSx X W0 w' v' a5 (srt ls)/\qG7 W v v'/\Bl W w':=by
 intro n;induction n with
 |zero=>
  intro W v us ls hn hB h hl hM;have HR:=ay h;obtain⟨⟨a,cap,rfl,-⟩,-,-⟩:=h;have e0:ls.length=0:=Oo;have hS:srt ls=ls:=jN Oo;rw[hS];rw[e0]at HR |-;go_enter func44,ntmps44;go_wp2;go_ret;exact⟨_,us,rfl,HR,.inl rfl,eB⟩
 |succ n ih=>
  intro W v us ls hn hB h hl hM;by_cases h2:ls.length<2
  .have HR:=ay h;obtain⟨⟨a,cap,rfl,-⟩,-,-⟩:=h;have hS:=jN h2;rw[hS];have i1:(ls.length:Int)<2:=Oo;go_enter func44,ntmps44;go_wp2;go_ret;exact⟨_,us,rfl,HR,.inl rfl,eB⟩
  rw[Ye h2];have HR:=ay h;obtain⟨⟨a,cap,rfl,d9,hc⟩,-,-⟩:=h;obtain⟨b,o,rfl,-⟩:∃b o,a=some (az b o)/\∀j,j<ls.length->aC W b (o+j) (us.getD j undef):=by
   rcases hc with h0|h0;omega;exact h0
  clear hc;have⟨N,hN⟩:=Ex ls.length;have KA:Hh (∀w1,Bl W w1->Cl 44 #[sZ b o (N / 2) cap] w1 λe w'=>∃v' a5,e=.returned v'/\RSx X W0 w' v' a5 (srt (ls.take (N / 2)))/\Bl w1 w'):=λw1 hb=>(
   ih _ _ _ _ (by rw[bZ];omega) (bt hB hb) ((HR.o.below hb).take Oo) (by rw[bZ];omega) (λr hr=>hM r (List.mem_of_mem_take hr))).mono λe w' ⟨v',a5,h1,h2,_,h3⟩=>⟨v',a5,h1,h2,h3⟩
  have KB:Hh (∀w1,Bl W w1->Cl 44 #[sZ b (o+N / 2) (N-N / 2) (cap-N / 2)] w1 λe w'=>∃v' a5,e=.returned v'/\RSx X W0 w' v' a5 (srt (ls.drop (N / 2)))/\Bl w1 w'):=λw1 hb=>by
   have:=ih _ (sZ b (o+N / 2) (N-N / 2) (cap-N / 2)) (us.drop (N / 2)) (ls.drop (N / 2)) (by rw[dP];omega) (bt hB hb) (by rw[hN];exact(HR.o.below hb).drop Oo) (by rw[dP];omega) (λr hr=>hM r (List.mem_of_mem_drop hr));exact this.mono λe w' ⟨v',a5,h1,h2,_,h3⟩=>⟨v',a5,h1,h2,h3⟩
  have e6:=ay λr hr=>hM r (List.mem_of_mem_take (((zQ _ (ls.take (N / 2)) eA).2 r).1 hr));have e7:=ay λr hr=>hM r (List.mem_of_mem_drop (((zQ _ (ls.drop (N / 2)) eA).2 r).1 hr));have h6:(srt (ls.take (N / 2))).length<=100000:=bM (yK _ _ eA) (by rw[bZ];omega);have h7:(srt (ls.drop (N / 2))).length<=100000:=bM (yK _ _ eA) (by rw[dP];omega);rw[<-hN]at d9 hl h2 |-;have q2:¬((N:Int)<2):=Oo;have q5:¬cap=N / 2:=Oo;have q6:N / 2<=cap:=Oo;have q7:N / 2<=N:=Oo;change Hh _ at hB;clear ih hn HR hM hN;generalize srt (ls.take (N / 2))=la,srt (ls.drop (N / 2))=lb at *;clear us;go_enter func44,ntmps44;go_wp2_with fail;apply (KA.o W eB).mono;rintro e w1 ⟨va,ua,rfl,e8,e9⟩;change Hh _ at e8 e9;clear KA;go_wp2_with fail;apply (KB.o _ e9.o).mono;rintro e w2 ⟨vb,ub,rfl,f7,d4⟩;have e1:=ay (e8.o.below d4);have f8:=ay f7;have f9:=ay (bt hB (bt e9 d4));have g4:=ay (bt e9 d4);obtain⟨⟨aa,ca,rfl,-,-⟩,-,-⟩:=e8.o;obtain⟨⟨ab,cb,rfl,-,-⟩,-,-⟩:=f7;clear d4 KB e8 e9 hB q2 q5 q6 q7 d9 h2;have g6:Hh (∀W,Bl w2 W->∀i,i<la.length->∃b o u,aa=some (az b o)/\aC W b (o+i) u/\ISx X W0 u (la.getD i [])):=λW hW i hi=>by
   obtain⟨⟨a',c',e,-,h1⟩,-,h3⟩:=e1.o.below hW;simp only[vI]at e;obtain⟨rfl,-,-⟩:=e;rcases h1 with h1|⟨b',o',rfl,h1⟩;omega;exact⟨b',o',_,rfl,h1 i hi,h3 i hi⟩
  have e3:Hh (∀W,Bl w2 W->∀i,i<lb.length->∃b o u,ab=some (az b o)/\aC W b (o+i) u/\ISx X W0 u (lb.getD i [])):=λW hW i hi=>by
   obtain⟨⟨a',c',e,-,h1⟩,-,h3⟩:=f8.o.below hW;simp only[vI]at e;obtain⟨rfl,-,-⟩:=e;rcases h1 with h1|⟨b',o',rfl,h1⟩;omega;exact⟨b',o',_,rfl,h1 i hi,h3 i hi⟩
  have KC:Hh (∀W i j u v,Bl w2 W->i<la.length->j<lb.length->ISx X W0 u (la.getD i [])->ISx X W0 v (lb.getD j [])->Cl 59 #[u,v] W λe w'=>e=.returned (ai (cmpL (la.getD i []) (lb.getD j [])))/\∃q,w'=W.drewN q):=λW i j u v hW hi hj hu hv=>
   zN W u v _ (hu.1.1.below (bt f9 hW)) (hv.1.1.below (bt f9 hW)) (e6 _ (by rw[gD,gE hi];exact gM _)) (e7 _ (by rw[gD,gE hj];exact gM _))
  have HM:Hh (∀i j,i<la.length->j<lb.length->la.drop i=la.getD i []::la.drop (i+1)/\lb.drop j=lb.getD j []::lb.drop (j+1)):=λi j hi hj=>⟨drop_cons hi,drop_cons hj⟩;have a9:Hh (∀i,i<la.length->la.drop i=la.getD i []::la.drop (i+1)):=λi hi=>drop_cons hi;have b7:Hh (∀i,i<lb.length->lb.drop i=lb.getD i []::lb.drop (i+1)):=λi hi=>drop_cons hi;have d5:Hh (∀i,¬i<la.length->la.drop i=[]):=λi hi=>qBe hi;have d6:Hh (∀i,¬i<lb.length->lb.drop i=[]):=λi hi=>qBe hi;have h8:Hh (∀lo i j,lo++mrg (la.drop i) (lb.drop j)=mrg la lb->lo.length<=200000):=λlo i j h=>by
   have:=vN _ la lb eA;rw[<-h,lA]at this;omega
  clear e1 f8 e6 e7 HM;have⟨na,g7⟩:=Ex la.length;have⟨nb,g8⟩:=Ex lb.length;rw[<-g7]at g6 KC a9 d5 h6 |-;rw[<-g8]at e3 KC b7 d6 h7 |-;clear g7 g8;have⟨iS,hj,b8,b9,c7⟩:=aX Tryz.infoIS;go_wp2;go_loopw [5,6,7] (λt5 t6 t7 wr=>∃(i j:Nat) (vo:Value),i<=na/\j<=nb/\t6=ai i/\t7=ai j/\vo=t5/\Hh (∃uo lo,lo++mrg (la.drop i) (lb.drop j)=mrg la lb/\MSx X W0 w2 wr vo uo lo)) (λ_ t6 t7 _=>(na-(intOf t6).toNat)+(nb-(intOf t7).toNat));exact⟨0,0,_,eC,eC,rfl,rfl,rfl,ay ⟨[],[],Ss,MSx.start X W0 w2⟩⟩;obtain⟨i,j,vo,hi,j6,rfl,rfl,rfl,HT⟩:=hrel;have⟨uo,lo,e4,g9⟩:=HT.o;change Hh _ at e4 g9;have hlen:=h8 _ i j e4;clear HT;by_cases a4:i<na
  .have i1:=aV a4;have i3:¬((i:Int)=na):=Oo;have i7:((i:Int) == (na:Int))=false:=Sy;have i8:¬(i=na):=Oo;have⟨b1,o1,u1,ea,c1,h4⟩:=g6 _ g9.o.bel i a4;subst ea;have d7:=ay h4;obtain⟨⟨⟨a1,k1,rfl,-⟩,-⟩,-⟩:=h4;by_cases a3:j<nb
   .have i2:=aV a3;have i4:¬((j:Int)=nb):=Oo;have i5:((j:Int) == (nb:Int))=false:=Sy;have i6:¬(j=nb):=Oo;have⟨b2,o2,u2,ea,c2,c8⟩:=e3 _ g9.o.bel j a3;subst ea;have d8:=ay c8;obtain⟨⟨⟨a2,k2,rfl,-⟩,-⟩,-⟩:=c8;have c9:=ay λW hW=>KC W i j _ _ hW a4 a3 d7 d8;have h9:Hh (cmpL (la.getD i []) (lb.getD j [])<0->lo++[la.getD i []]++mrg (la.drop (i+1)) (lb.drop j)=mrg la lb):=λhc=>by
     have h:=e4.o;rw[a9.o i a4,b7.o j a3,Ve hc,<-b7.o j a3]at h;rw[dN];exact h
    have i0:Hh (0<cmpL (la.getD i []) (lb.getD j [])->lo++[lb.getD j []]++mrg (la.drop i) (lb.drop (j+1))=mrg la lb):=λhc=>by
     have h:=e4.o;rw[a9.o i a4,b7.o j a3,Vf hc,<-a9.o i a4]at h;rw[dN];exact h
    have j0:Hh (¬cmpL (la.getD i []) (lb.getD j [])<0->¬0<cmpL (la.getD i []) (lb.getD j [])->lo++[la.getD i []]++mrg (la.drop (i+1)) (lb.drop (j+1))=mrg la lb):=λh1 h2=>by
     have h:=e4.o;rw[a9.o i a4,b7.o j a3,Vg h1 h2]at h;rw[dN];exact h
    generalize cmpL (la.getD i []) (lb.getD j [])=cc,(la.getD i []).length=m1,(lb.getD j []).length=m2 at *;clear KC e4;have e5:=ay λq=>(g9.o.drewN q).bel;have h5:=ay λn q=>((g9.o.drewN n).drewN q).bel;by_cases h1:cc<0
    .have j1:decide (cc<0)=true:=by simp[h1]
     go_upto_region 12 with fail;go_quiet (first|go_at_call 59;exact Calls.quiet_of (c9 _ (e5 _)))
     have I:=ay (g9.o.drewN nq);go_wp2_with (at_builtin;refine wpList_append_lies _ rfl _ _ 23 rfl w2.1.size 24 iS sn 1 24 underlying23 hj b8 b9 c7 rfl Dd vo _ uo rfl (I.o.own.alloc _) (az _ 0) 1 1 [.slice a1 m1 k1] rfl rfl (qH _ _ _) (λu hu=>by simp at hu;subst hu;rfl) Dd Um Oo (by have:=I.o.bel.size;simp at this |-;omega) _ rfl ?_;intro g3 cp3 w3 M K a7 a8);go_roundw;exact⟨i+1,j,_,Oo,Oo,Gg,rfl,rfl,ay ⟨_,_,h9 h1,I.o.push d7 M K⟩⟩;exact Im
    have j1:decide (cc<0)=false:=Sy;by_cases h2:0<cc
    .have j2:decide (0<cc)=true:=by simp[h2]
     go_upto_region 12 with fail;go_quiet (first|go_at_call 59;exact Calls.quiet_of (c9 _ (e5 _)))
     go_upto_region 15 with fail;have V:=ay (g9.o.drewN nq);have d0:=ay λq=>h5 nq q;have d1:aC (wr.drewN nq) b1 (o1+i) (.slice a1 m1 k1):=c1;have d2:aC (wr.drewN nq) b2 (o2+j) (.slice a2 m2 k2):=c2;generalize wr.drewN nq=W5 at V d0 d1 d2 |-;go_quiet (first|go_at_call 59;exact Calls.quiet_of (c9 _ (d0 _)))
     have I:=ay (V.o.drewN nq);go_wp2_with (at_builtin;refine wpList_append_lies _ rfl _ _ 23 rfl w2.1.size 24 iS sn 1 24 underlying23 hj b8 b9 c7 rfl Dd vo _ uo rfl (I.o.own.alloc _) (az _ 0) 1 1 [.slice a2 m2 k2] rfl rfl (qH _ _ _) (λu hu=>by simp at hu;subst hu;rfl) Dd Um Oo (by have:=I.o.bel.size;simp at this |-;omega) _ rfl ?_;intro g3 cp3 w3 M K a7 a8);go_roundw;exact⟨i,j+1,_,Oo,Oo,rfl,Gg,rfl,ay ⟨_,_,i0 h2,I.o.push d8 M K⟩⟩;exact Im
    have j2:decide (0<cc)=false:=Sy;go_upto_region 12 with fail;go_quiet (first|go_at_call 59;exact Calls.quiet_of (c9 _ (e5 _)))
    go_upto_region 15 with fail;have V:=ay (g9.o.drewN nq);have d0:=ay λq=>h5 nq q;have d1:aC (wr.drewN nq) b1 (o1+i) (.slice a1 m1 k1):=c1;have d2:aC (wr.drewN nq) b2 (o2+j) (.slice a2 m2 k2):=c2;generalize wr.drewN nq=W5 at V d0 d1 d2 |-;go_quiet (first|go_at_call 59;exact Calls.quiet_of (c9 _ (d0 _)))
    have I:=ay (V.o.drewN nq);go_wp2_with (at_builtin;refine wpList_append_lies _ rfl _ _ 23 rfl _ 24 _ _ 1 _ underlying23 hj b8 b9 c7 rfl Dd vo _ _ rfl (I.o.own.alloc _) (az _ 0) 1 1 _ rfl rfl (qH _ _ _) (λu hu=>by simp at hu;subst hu;rfl) Dd Um Oo (by have:=I.o.bel.size;simp at this |-;omega) _ rfl ?_;intro g3 cp3 w3 M K a7 a8);go_roundw;exact⟨i+1,j+1,_,Oo,Oo,Gg,Gg,rfl,ay ⟨_,_,j0 h1 h2,I.o.push d7 M K⟩⟩;exact Im
   obtain rfl:j=nb:=Oo;have HN:Hh (lo++[la.getD i []]++mrg (la.drop (i+1)) (lb.drop j)=mrg la lb):=(by
    have h:=e4.o;rw[d6.o j a3,yW,a9.o i a4]at h;rw[d6.o j a3,yW,dN];exact h)
   generalize (la.getD i []).length=m1 at *;go_upto_region 12 with fail;go_quiet (fail)
   have I:=ay (g9.o.drewN nq);go_wp2_with (at_builtin;refine wpList_append_lies _ rfl _ _ 23 rfl w2.1.size 24 iS sn 1 24 underlying23 hj b8 b9 c7 rfl Dd vo _ uo rfl (I.o.own.alloc _) (az _ 0) 1 1 [.slice a1 m1 k1] rfl rfl (qH _ _ _) (λu hu=>by simp at hu;subst hu;rfl) Dd Um Oo (by have:=I.o.bel.size;simp at this |-;omega) _ rfl ?_;intro g3 cp3 w3 M K a7 a8);go_roundw;exact⟨i+1,j,_,Oo,Oo,Gg,rfl,rfl,ay ⟨_,_,HN,I.o.push d7 M K⟩⟩;exact Im
  obtain rfl:i=na:=Oo;have i1:=aY i;by_cases a3:j<nb
  .have i2:=aV a3;have i4:¬((j:Int)=nb):=Oo;have i5:((j:Int) == (nb:Int))=false:=Sy;have i6:¬(j=nb):=Oo;have⟨b2,o2,u2,ea,c2,c8⟩:=e3 _ g9.o.bel j a3;subst ea;have d8:=ay c8;obtain⟨⟨⟨a2,k2,rfl,-⟩,-⟩,-⟩:=c8;have HN:Hh (lo++[lb.getD j []]++mrg (la.drop i) (lb.drop (j+1))=mrg la lb):=(by
    have h:=e4.o;rw[d5.o i a4,yJ,b7.o j a3]at h;rw[d5.o i a4,yJ,dN];exact h)
   have i9:decide ((i:Int)<i)=false:=Ss;generalize (lb.getD j []).length=m2 at *;go_upto_region 12 with fail;go_quiet (fail)
   go_upto_region 15 with fail;have V:=ay (g9.o.drewN nq);have d2:aC (wr.drewN nq) b2 (o2+j) (.slice a2 m2 k2):=c2;generalize wr.drewN nq=W5 at V d2 |-;go_quiet (fail)
   have I:=ay (V.o.drewN nq);go_wp2_with (at_builtin;refine wpList_append_lies _ rfl _ _ 23 rfl w2.1.size 24 iS sn 1 24 underlying23 hj b8 b9 c7 rfl Dd vo _ uo rfl (I.o.own.alloc _) (az _ 0) 1 1 [.slice a2 m2 k2] rfl rfl (qH _ _ _) (λu hu=>by simp at hu;subst hu;rfl) Dd Um Oo (by have:=I.o.bel.size;simp at this |-;omega) _ rfl ?_;intro g3 cp3 w3 M K a7 a8);go_roundw;exact⟨i,j+1,_,Oo,Oo,rfl,Gg,rfl,ay ⟨_,_,HN,I.o.push d8 M K⟩⟩;exact Im
  obtain rfl:j=nb:=Oo;have i2:=aY j;have HN:=ay (by
   have h:=e4.o;rw[d5.o i a4,d6.o j a3,yJ,dU]at h;exact h)
  have j3:=ay g9.o.rs;have j4:=ay (bt g4 g9.o.bel);have j5:=ay λg hg=>bM g4.o.size (g9.o.own.lt g hg).1;obtain⟨⟨ao,co,rfl,-⟩,-,-⟩:=g9.o.rs;clear g9 e4;go_wp2;go_ret;refine⟨_,rfl,⟨uo,?_⟩,.inr j5.o,j4.o⟩;rw[<-HN.o];exact j3
open Meet
theorem qCT w{tb}fb gb cb{l}(k:Int->Nat)x(hv:w.cell? (az tb 0)=some (sZ fb 0 l.length cap))(hb:w.cell? (az tb 1)=some (sZ gb 0 l.length cb))
 (ho:∀j,j<l.length->w.cell? (az fb j)=some (ai (l.getD j 0))) (hp:∀j,j<l.length->w.cell? (az gb j)=some (.pointer (some (az (k (l.getD j 0)) 0))))
 (h0:0<l.length) (hl:l.length<=1000000) (a7:l.length<=cap) (ha:Asc l):
 aG 161 #[.pointer (some (az tb 0)),ai x] w (.pointer (if x∈l then some (az (k x) 0) else none)):=by
 obtain⟨W1,I⟩:=Ex (w.alloc (.cells #[.pointer (some (az tb 0)),ai 0] 268));have a4:Bl w W1:=by rw[I];exact(bJ _ _).alloc (nR _) _
 have hc:∀{a:Addr} {v:Value},w.cell? a=some v->W1.cell? a=some v:=λ{a v} h=>(a4.cell (bL w _ h)).trans h;have KS:=ay (Xz _ 0 l 0 x ⟨by rw[I,eH rfl];rfl,by rw[I,eH rfl];rfl,by rw[I];unfold World.frozen?;rw[dZ];simp,hc hv,hc hb,λj hj=>hc (ho j hj)⟩ Oo a7 h0 ha);rw[List.drop_zero,cU,cU]at KS;obtain⟨q,hq⟩:=Ex (bsQ l x);have hs1:=a4.size;have a8:=(ZF (jM ha) x).1;have H2:Hh (∀d,Cq ((W1.drewN d).setCell (az w.1.size 1) (ai q)) w.1.size 0 tb fb cap (sZ gb 0 l.length cb) l q/\Bl w ((W1.drewN d).setCell (az w.1.size 1) (ai q))/\∀j,j<l.length->((W1.drewN d).setCell (az w.1.size 1) (ai q)).cell? (az gb j)=some (.pointer (some (az (k (l.getD j 0)) 0)))):=ay λd=>by
  have a9:Bl w ((W1.drewN d).setCell (az w.1.size 1) (ai q)):=(below_drewN a4 d).setCell eA _;have a5:∀{a:Addr} {v:Value},w.cell? a=some v->((W1.drewN d).setCell (az w.1.size 1) (ai q)).cell? a=some v:=λ{a v} h=>(a9.cell (bL w _ h)).trans h;have hh:((W1.drewN d).setCell (az w.1.size 1) (ai q)).1[w.1.size]?=some (.cells #[.pointer (some (az tb 0)),ai q] 268 (0,0)):=by
   rw[bI (W1.drewN d) w.1.size 1 #[.pointer (some (az tb 0)),ai 0] 268 _ (by rw[I];exact eO)];rfl
  refine⟨⟨?_,?_,?_,a5 hv,a5 hb,λj hj=>a5 (ho j hj)⟩,a9,λj hj=>a5 (hp j hj)⟩;rw[eI hh];rfl;rw[eI hh];rfl;unfold World.frozen?;rw[hh];simp
 clear hc a4 hs1 hv hb ho hp;rw[<-hq]at KS a8;have KE:Hh (∀W,Cq W w.1.size 0 tb fb cap (sZ gb 0 l.length cb) l q->Cl 191 #[.pointer (some (az w.1.size 0))] W λe w'=>e=.returned (.bool (decide (q=l.length)))/\∃d,w'=W.drewN d):=ay λW hW=>XG W hW;by_cases a3:q<l.length
 .have KV:Hh (∀W,Cq W w.1.size 0 tb fb cap (sZ gb 0 l.length cb) l q->Cl 192 #[.pointer (some (az w.1.size 0))] W λe w'=>e=.returned (ai (l.getD q 0))/\∃d,w'=W.drewN d):=ay λW hW=>XH W hW a3;have KB:Hh (∀W,Cq W w.1.size 0 tb fb cap (sZ gb 0 l.length cb) l q->aC W gb q (.pointer (some (az (k (l.getD q 0)) 0)))->Cl 196 #[.pointer (some (az w.1.size 0))] W λe w'=>e=.returned (.pointer (some (az (k (l.getD q 0)) 0)))/\∃d,w'=W.drewN d):=ay λW hW hy=>XI W hW a3 hy;rw[fC Oo]at KE;have HX:Hh ((if x∈l then some ((az (k x) 0):Addr) else none)=if l.getD q 0=x then some (az (k x) 0) else none):=ay (by
   by_cases hx:x∈l;have:=(XJ ha hx).2;rw[<-hq]at this;rw[fE hx,fE this];have:=qDC hx (by rw[<-hq];exact a3);rw[<-hq]at this;rw[fF hx,fF this])
  rw[HX.o];have HP:=ay λd=>(H2 d).2.2 q a3;clear HX ha hq a8 h0 hl a7 a3;generalize l.getD q 0=y at *;by_cases e:y=x
  .subst e;rw[fE rfl];go_enter func161,ntmps161;go_upto_region 2 with fail;rw[<-I];clear I;go_wp2_with fail;apply KS.o.mono;rintro e w2 ⟨⟨v,rfl⟩,d,M⟩;obtain⟨K,O,-⟩:=H2 d;have hP:=HP d;rw[<-M]at K O hP;have V:=ay (KE _ K);clear H2 HP M KS KE;go_wp2_with fail;apply V.o.mn;rintro w3 ⟨d3,rfl⟩;have a6:=ay (KV _ (K.drewN d3));clear V KV;go_wp2_with fail;apply a6.o.mn;rintro w4 ⟨d4,rfl⟩;have b1:=ay (KB _ (K.drewN (d3+d4)) hP);clear a6 KB;go_wp2_with fail;apply b1.o.mn;rintro w5 ⟨d5,rfl⟩;go_wp2;go_ret;exact⟨rfl,below_drewN O _⟩
  rw[fF e];go_enter func161,ntmps161;go_upto_region 2 with fail;rw[<-I];clear I;go_wp2_with fail;apply KS.o.mono;rintro e w2 ⟨⟨v,rfl⟩,d,M⟩;obtain⟨K,O,-⟩:=H2 d;rw[<-M]at K O;have V:=ay (KE _ K);clear H2 HP M KS KE;go_wp2_with fail;apply V.o.mn;rintro w3 ⟨d3,rfl⟩;have a6:=ay (KV _ (K.drewN d3));clear V KV;go_wp2_with fail;apply a6.o.mn;rintro w4 ⟨d4,rfl⟩;go_wp2;go_ret;exact⟨rfl,below_drewN O _⟩
 have hx:x∉l:=λhx=>by have:=(XJ ha hx).1;omega
 rw[fF hx];rw[fD Oo]at KE;clear ha hq h0 hl a7 hx;go_enter func161,ntmps161;go_upto_region 2 with fail;rw[<-I];clear I;go_wp2_with fail;apply KS.o.mono;rintro e w2 ⟨⟨v,rfl⟩,d,M⟩;obtain⟨K,O,-⟩:=H2 d;rw[<-M]at K O;have V:=ay (KE _ K);clear H2 M KS KE;go_wp2_with fail;apply V.o.mn;rintro w3 ⟨d3,rfl⟩;go_wp2;go_ret;exact⟨rfl,below_drewN O _⟩
theorem qED{D N f}(hM:TM rows D N)(K:TR w B D N N f g0 g1)(hK:∀p,D p->(N p).length<=1000000){p}(I:D p)(O:0<(N p).length)x:
 aG 161 #[.pointer (some (az (f p) 0)),ai x] w (.pointer (if x∈N p then some (az (f (p++[x])) 0) else none)):=by
 obtain⟨ga,ca,V,-⟩:=xg (K.o0 p I) O;obtain⟨gb,cb,eb,-⟩:=xg (K.o1 p I) O;have a3:(N p).length<=ca:=by
  rcases (K.o0 p I).2 with ⟨-,h2⟩|⟨g,cap,cur,e,-,-,hn,-⟩;omega;rw[V]at e;simp only[vI]at e;omega
 refine qCT w ga gb cb (λy=>f (p++[y])) x (by rw[K.c0 I,V]) (by rw[K.c1 I,eb]) (λj M=>?_) (λj M=>?_) O (hK p I) a3 (jP (hM.asc p I));have⟨g,c,e,h1⟩:=xg (K.o0 p I) M;rw[V]at e;simp only[vI,oI,Addr.mk.injEq]at e;rw[e.1.1,h1,bK,gE M,gD,gE M];rfl;have⟨g,c,e,h1⟩:=xg (K.o1 p I) M;rw[eb]at e;simp only[vI,oI,Addr.mk.injEq]at e;rw[e.1.1,h1,bK,gE M,gD,gE M];rfl
def Nd(D:LI->Prop)(f:LI->Nat)(p:LI)(c:OA):Prop:=D p/\c=some (az (f p) 0)\/¬D p/\c=none
theorem qFV w D N f L q(K:TM rows D N)(hT:TR w B D N N f g0 g1)(hK:∀p,D p->(N p).length<=1000000)
 (hl:∀r∈rows,r.length=L) (hn:rows≠[]) (hr:IS w vr q) (hq:q.length=L) (hL:L<=1000):
 aG 127 #[.pointer (some (az (f []) 0)),vr] w (.bool (decide (q∈rows))):=by
 obtain⟨ar,cr,rfl,hc⟩:=hr;have HC:Hh (∀W,Bl w W->∀j,j<q.length->∃(b o:Nat),ar=some (az b o)/\aC W b (o+j) (ai (q.getD j 0))):=λW hW j O=>by
  rcases hc with h0|⟨b,o,rfl,h⟩;omega;exact⟨b,o,rfl,(hW.cell (bL w _ (h j O))).trans (h j O)⟩
 have KU:Hh (∀W j,Bl w W->j<q.length->D (q.take j)->Cl 161 #[.pointer (some (az (f (q.take j)) 0)),ai (q.getD j 0)] W λe w'=>∃c,e=.returned (.pointer c)/\Nd D f (q.take (j+1)) c/\Bl W w'):=λW j hW O hd=>by
  apply (qED K (hT.below hW) hK hd (K.more hl hn (by rw[bZ];omega) hd) (q.getD j 0)).mn;intro w' hb;refine⟨_,rfl,?_,hb⟩;unfold Nd;rw[qy O,<-K.mem _ hd];by_cases hx:q.getD j 0∈N (q.take j);exact .inl ⟨hx,by rw[fE hx]⟩;exact .inr ⟨hx,by rw[fF hx]⟩
 have HN:Hh (∀j,¬D (q.take j)->decide (q∈rows)=false):=λj O=>fC λhm=>O (K.pre ((K.row hl hn hq).2 hm) (List.take_prefix _ _));have HE:Hh (∀c,Nd D f (q.take q.length) c->c.isSome=decide (q∈rows)):=λc hc=>by
  rw[tL]at hc;rcases hc with ⟨h1,rfl⟩|⟨h1,rfl⟩;rw[fD ((K.row hl hn hq).1 h1)];rfl;rw[fC (λhm=>h1 ((K.row hl hn hq).2 hm))];rfl
 have HS:Hh (Nd D f (q.take 0) (some (az (f []) 0))):=.inl ⟨K.root,rfl⟩;generalize decide (q∈rows)=ans at *;have a8:q.length<=1000:=Oo;clear K hT hK hl hn hc hq hL;have⟨n,a3⟩:=Ex q.length;rw[<-a3]at HC KU HE a8 |-;clear a3;generalize f []=fr at *;go_enter func127,ntmps127;go_wp2;go_loopw [0,9] (λu t wr=>∃(j:Nat) (c:OA),j<=n/\t=ai j/\u=.pointer c/\Hh (Nd D f (q.take j) c/\Bl w wr)) (λ_ t _=>n-(intOf t).toNat);exact⟨0,_,eC,rfl,rfl,ay ⟨HS,eB⟩⟩;clear HS;obtain⟨j,c,O,rfl,rfl,M⟩:=hrel;by_cases a4:j<n
 .have i1:=aV a4;have⟨b,o,ea,e1⟩:=HC _ M.2 j a4;subst ea;rcases M.o.1 with ⟨hd,V⟩|⟨hd,V⟩
  .subst V;have a5:=ay (KU _ j M.2 a4 hd);have HB:=ay M.2;clear M KU HC hd HN HE;generalize q.getD j 0=x,f (q.take j)=fj at *;go_wp2_with fail;apply a5.o.mono;rintro e w2 ⟨c2,rfl,a6,a7⟩;have a9:=ay (And.intro a6 (bt HB a7));clear a6 a7 a5;go_wp2;go_roundw;exact⟨j+1,_,Oo,Gg,rfl,a9⟩;exact Im
  subst V;have I:=HN j hd;subst I;clear KU HC hd HN HE;generalize q.getD j 0=x at *;go_wp2;go_ret;exact⟨rfl,M.2⟩
 obtain rfl:j=n:=Oo;have i1:=aY j;have I:=HE c M.1;subst I;have HB:=ay M.2;clear M HE HN KU HC;cases c with
 |none=>
  go_wp2;go_ret;exact⟨rfl,HB⟩
 |some a=>
  go_wp2;go_ret;exact⟨rfl,HB⟩
end Go.Proofs.YtnpgdnaeghilhaaGreat
namespace Go.Proofs.YtnpgdnaeghilhaaGreat
open Go.Proofs.Tryz Go.RowKit
variable {l r q:LI}{D:LI->Prop}{rs:LL}{xs:LV}{B B' K i j n node p root s c m k b L g:Nat}{o:Obj}{e:TypeId}{v vr O y u v' x:Value}{W W' W0 w w3 I w4:World}{N:LI->LI}{f:LI->Nat}{g0 g1:LI->Value}
theorem UX{K}(h:IS w (.slice (some K) n c) l)(M:m<=l.length):IS w (.slice (some K) m c) (l.take m):=by
 have⟨a,c',e,I⟩:=h;simp only[vI]at e;obtain⟨rfl,-,rfl⟩:=e;have hl:(l.take m).length=m:=by rw[bZ];omega
 refine⟨_,c,by rw[hl],?_⟩;rcases I with I|⟨b,o,e,I⟩;exact .inl Oo;exact .inr ⟨b,o,e,λj O=>by rw[getD_take Oo];exact I j Oo⟩
theorem uR w vq{rows}q(h:ISSc w vr rows)(hq:IS w vq q)(hS:SL rows)(hn:rows.length<=1099511627776)(hl:∀r∈rows,q.length<=r.length/\r.length<=1099511627776):
 Cl 45 #[vr,vq] w λe w'=>∃k:Nat,e=.returned (ai k)/\Sk rows q k/\∃d,w'=w.drewN d:=by
 obtain⟨ar,cr,rfl,hc⟩:=h;have HC:Hh (∀j,j<rows.length->∃(b o:Nat) (O:OA) (lr cu:Nat),ar=some (az b o)/\aC w b (o+j) (.slice O lr cu)/\q.length<=lr/\lr<=cu/\(O=none->lr=0)/\∀d ad,O=some ad->Cl 59 #[.slice (some ad) q.length cu,vq] (w.drewN d) λe w'=>e=.returned (ai (cmpL ((rows.getD j []).take q.length) q))/\∃q',w'=(w.drewN d).drewN q'):=λj hj=>by
  rcases hc with h0|⟨b,o,rfl,h⟩;omega;obtain⟨u,V,hI,a',n',c',e,a5⟩:=h j hj;have hm:=hl _ (by rw[gD,gE hj];exact gM _:rows.getD j []∈rows);have a9:=hI;obtain⟨O,cu,eu,M⟩:=hI;subst eu;simp only[vI]at e;obtain⟨-,rfl,rfl⟩:=e;refine⟨b,o,O,_,cu,rfl,V,hm.1,a5,λe=>?_,λd ad e=>?_⟩
  .rcases M with M|⟨b2,o2,e2,-⟩;exact M;rw[e]at e2;cases e2
  subst e;have h3:=UX a9 hm.1;exact zN _ _ _ q (h3.below (below_drewN eB d)) (hq.below (below_drewN eB d)) (by rw[bZ];omega) Oo
 have HD:Hh (∀i j,i<=j->j<rows.length->cmpL ((rows.getD j []).take q.length) q<0->cmpL ((rows.getD i []).take q.length) q<0):=λi j b1 hj hc=>qC5 hS b1 hj hc;have HF:Hh (∀k,k<=rows.length->(∀t,t<k->cmpL ((rows.getD t []).take q.length) q<0)->(∀t,k<=t->t<rows.length->¬cmpL ((rows.getD t []).take q.length) q<0)->Sk rows q k):=λk V M h3=>⟨V,M,h3⟩;have KN:Hh (q.length=0->∀d cu j,Cl 59 #[.slice none 0 cu,vq] (w.drewN d) λe w'=>e=.returned (ai (cmpL ((rows.getD j []).take q.length) q))/\∃q',w'=(w.drewN d).drewN q'):=λh0 d cu j=>by
  rw[h0,List.take_zero];exact zN _ _ _ q ⟨none,cu,rfl,.inl rfl⟩ (hq.below (below_drewN eB d)) Ss Oo
 clear hc hS hl;obtain⟨aq,cq,rfl,-⟩:=hq;generalize rows.length=n,hm:q.length=m at *;change Hh _ at hm;obtain⟨C,hC⟩:=Ex (λj=>cmpL _ q);have a6:Hh (∀j,cmpL ((rows.getD j []).take m) q=C j):=λj=>by rw[hC]
 simp only[a6.o]at HC HD HF KN;clear hC a6;go_enter func45,ntmps45;go_wp2;go_loopg [5,6] n (λg s5 s6 wr=>∃lo hi d:Nat,s5=ai lo/\s6=ai hi/\lo<=hi/\hi<=n/\hi-lo<=g/\wr=w.drewN d/\Hh ((∀t,t<lo->C t<0)/\(∀t,hi<=t->t<n->¬C t<0)))
 case atStart=>exact⟨0,n,0,rfl,rfl,eC,eA,Oo,rfl,ay ⟨λt ht=>absurd ht (Nat.not_lt_zero _),λt V M=>Oo⟩⟩
 case round=>
  obtain⟨lo,hi,d,rfl,rfl,b9,a7,hg,rfl,I⟩:=hrel;by_cases c7:lo<hi
  .have⟨b,o,O,lr,cu,ea,c1,c8,c9,a8,K⟩:=HC ((lo+hi) / 2) Oo;subst ea;have d0:m<=cu:=Oo;have KC:Hh (∀d,Cl 59 #[.slice O m cu,.slice aq m cq] (w.drewN d) λe w'=>e=.returned (ai (C ((lo+hi) / 2)))/\∃q',w'=(w.drewN d).drewN q'):=λd=>by
    cases O with
    |none=>
     have h0:m=0:=O1 (a8 rfl)
     have:=KN h0 d cu ((lo+hi) / 2);rw[h0]at this |-;exact this
    |some ad=>exact K d _ rfl
   have a3:Hh (C ((lo+hi) / 2)<0->∀t,t<(lo+hi) / 2+1->C t<0):=λh t ht=>HD t _ Oo Oo h;have HDn:Hh (¬C ((lo+hi) / 2)<0->∀t,(lo+hi) / 2<=t->t<n->¬C t<0):=λh t V M h3=>h (HD _ t V M h3);clear K a8 HC KN HD HF;generalize C ((lo+hi) / 2)=y at *;by_cases hy:y<0
   .have a4:Hh ((∀t,t<(lo+hi) / 2+1->C t<0)/\(∀t,hi<=t->t<n->¬C t<0)):=⟨a3 hy,I.2⟩;have b7:=fD hy;clear I a3 HDn;go_wp2_with fail;apply (KC.o _).mn;rintro w2 ⟨d2,rfl⟩;go_wp2_with fail;go_roundg (hi-((lo+hi) / 2+1))
    case measure=>omega
    case rel=>exact⟨(lo+hi) / 2+1,hi,_,by rw[show((lo:Int)+(hi:Int)) / 2+1=(((lo+hi) / 2+1:Nat):Int)by omega],rfl,Oo,a7,eA,rfl,a4⟩
   have a4:Hh ((∀t,t<lo->C t<0)/\(∀t,(lo+hi) / 2<=t->t<n->¬C t<0)):=⟨I.1,HDn hy⟩;have b7:=fC hy;clear I a3 HDn;go_wp2_with fail;apply (KC.o _).mn;rintro w2 ⟨d2,rfl⟩;go_wp2_with fail;go_roundg ((lo+hi) / 2-lo)
   case measure=>omega
   case rel=>exact⟨lo,(lo+hi) / 2,_,rfl,by rw[show((lo:Int)+(hi:Int)) / 2=(((lo+hi) / 2:Nat):Int)by omega],Oo,Oo,eA,rfl,a4⟩
  obtain rfl:hi=lo:=Oo;have HE:=ay (HF _ a7 I.1 (λt V M=>O1 (I.2 t V M)));clear HC HD HF KN I;go_wp2;go_ret;exact⟨_,rfl,HE,_,rfl⟩
theorem UY w rows(h:ISSc w vr rows)(hq:IS w O q)(hS:SL rows)(hn:rows.length<=1099511627776)(hl:∀r∈rows,q.length<=r.length/\r.length<=1099511627776):
 aF 102 #[vr,O] w (.bool (vf rows q)) λw'=>∃d,w'=w.drewN d:=by
 have KS:=ay (uR w O q h hq hS hn hl);have HB:Hh (∀k,Sk rows q k->k<=rows.length/\vf rows q=(decide (k<rows.length)&&decide (cmpL ((rows.getD k []).take q.length) q=0))):=ay λk hk=>⟨hk.le,hk.beg hS⟩;obtain⟨ar,cr,rfl,hc⟩:=h;have HC:Hh (∀j,j<rows.length->∃(b o:Nat) (V:OA) (lr cu:Nat),ar=some (az b o)/\aC w b (o+j) (.slice V lr cu)/\q.length<=lr/\lr<=cu/\∀d,Cl 59 #[.slice V q.length cu,O] (w.drewN d) λe w'=>e=.returned (ai (cmpL ((rows.getD j []).take q.length) q))/\∃q',w'=(w.drewN d).drewN q'):=ay λj hj=>by
  rcases hc with h0|⟨b,o,rfl,h⟩;omega;have⟨u,h1,hI,a',n',c',e,a3⟩:=h j hj;have hm:=hl _ (by rw[gD,gE hj];exact gM _:rows.getD j []∈rows);have a6:=hI;obtain⟨V,cu,eu,h2⟩:=hI;subst eu;simp only[vI]at e;obtain⟨-,rfl,rfl⟩:=e;refine⟨b,o,V,_,cu,rfl,h1,hm.1,a3,λd=>?_⟩;have a4:=hq.below (below_drewN eB d);cases V with
  |none=>
   have h0:(rows.getD j []).length=0:=by
    rcases h2 with h2|⟨b2,o2,e2,-⟩;exact h2;cases e2
   have e1:(rows.getD j []).take q.length=[]:=by rw[dV.1 h0,List.take_nil]
   have e2:q.length=0:=Oo;rw[e1,e2];exact zN _ _ O q ⟨none,cu,rfl,Or.inl rfl⟩ a4 Ss Oo
  |some ad=>
   exact zN _ _ O q ((UX a6 hm.1).below (below_drewN eB d)) a4 (by rw[bZ];omega) Oo
 clear hc hS hl;obtain⟨aq,cq,rfl,-⟩:=hq;generalize vf rows q=ans at *;obtain⟨C,hC⟩:=Ex (λj=>cmpL _ q);have a5:Hh (∀j,cmpL ((rows.getD j []).take q.length) q=C j):=ay λj=>by rw[hC]
 simp only[a5.o]at HC HB;clear hC a5;generalize rows.length=n,q.length=m at *;go_enter func102,ntmps102;go_wp2_with fail;apply KS.o.mono;rintro e w2 ⟨k,rfl,hk,d,rfl⟩;obtain⟨a7,I⟩:=HB k hk;clear KS HB hk;by_cases M:k<n
 .obtain⟨b,o,V,lr,cu,ea,c1,a8,a9,K⟩:=HC k M;subst ea;have i1:=aV M;have b1:m<=cu:=Oo;change Hh _ at K;have HA:Hh (ans=decide (C k=0)):=ay (by rw[I,fD M,dG]);clear HC I;generalize C k=y at *;go_wp2_with fail;apply (K.o _).mn;rintro w3 ⟨d3,rfl⟩;go_wp2;go_ret;exact⟨qJ (by rw[HA.o];first|rfl|simp),_,rfl⟩
 have i1:¬((k:Int)<n):=Oo;rw[fC M,Bool.false_and]at I;subst I;clear HC;go_wp2;go_ret;exact⟨rfl,_,rfl⟩
theorem qBW{p}(I:k<l.length):(l.take (k+1)).filter p=if p (l.getD k 0) then (l.take k).filter p++[l.getD k 0] else (l.take k).filter p:=by
 rw[tA,gE I,cZ];have e:l.getD k 0=l[k]:=by rw[gD,gE I];rfl
 rw[e];simp only[Option.toList_some];by_cases h:p l[k]=true;rw[fE h,List.filter_cons_of_pos h];rfl;rw[fF h,List.filter_cons_of_neg h];simp
theorem qBX{v2}l{V}(h:IS w v l)(hl:l.length<=1099511627776)(h2:IS w v2 V)(a9:V.length<=1099511627776):
 Cl 97 #[v,v2] w λe w'=>∃g cap,e=.returned (.slice (some (az g 0)) (shr l V).length cap)/\w'.ownsRow w.1.size 3 1 (.slice (some (az g 0)) (shr l V).length cap) (shr l V).length ((shr l V).map ai)/\Bl w w':=by
 have⟨i0,hi,b1,b7,b8⟩:=aX Tryz.infoInt;obtain⟨a,cap,rfl,hc⟩:=h;have H2:=ay h2;obtain⟨a2,c7,rfl,-⟩:=h2;have⟨I,a3⟩:=Ex (λk=>(l.take k).filter λx=>decide (x∈V));have HS:Hh (∀k,k<l.length->I (k+1)=if decide (l.getD k 0∈V) then I k++[l.getD k 0] else I k):=ay λk hk=>by rw[a3];exact qBW hk
 have H0:Hh (I 0=[]):=ay (by rw[a3];rfl);have HE:Hh (I l.length=shr l V):=ay (by rw[a3];simp[shr]);have c8:Hh (∀k,(I k).length<=k):=ay λk=>by
  rw[a3];exact bM (dH _ _) Sy
 rw[<-HE.o];obtain⟨n,hn⟩:=Ex l.length;rw[<-hn]at hc hl HS |-;have HC:=ay hc;clear hc hn a3 HE;go_enter func97,ntmps97;go_wp2;have b0:Bl w (w.alloc (.cells #[] 3)):=aK;have a6:=ay b0;clear b0;go_loopw [5,11] (λv t wr=>∃k g cp lk:Nat,k<=n/\t=ai k/\v=sZ g 0 lk cp/\lk<=k/\Hh (lk=(I k).length/\wr.ownsRow w.1.size 3 1 (sZ g 0 lk cp) lk ((I k).map ai)/\Bl w wr)) (λ_ t _=>n-(intOf t).toNat);exact⟨0,w.1.size,0,0,eC,rfl,rfl,eA,ay (by rw[H0.o];exact⟨rfl,oM w _ 0 eA Dd rfl,a6⟩)⟩;clear a6;obtain⟨k,g,cp,lk,hk,rfl,rfl,c9,O⟩:=hrel;have b9:=O.2.2.size;by_cases a5:k<n
 .have i1:=aV a5;rcases HC.o with h0|⟨b,o,rfl,K⟩;omega;have c1:=(O.2.2.cell (bL w _ (K k a5))).trans (K k a5);have HK:=ay (ze _ _ V (l.getD k 0) (H2.o.below O.2.2) a9);have e1:=HS k a5;clear K;generalize decide (l.getD k 0∈V)=y at *;generalize l.getD k 0=x at *;cases y
  .rw[fF Dd]at e1;have HF:Hh (lk=(I (k+1)).length/\wr.ownsRow w.1.size 3 1 (sZ g 0 lk cp) lk ((I (k+1)).map ai)/\Bl w wr):=ay (by rw[e1];exact O);clear e1 O;go_wp2_with fail;apply HK.o.mn;intro w1 hw1;subst w1;go_wp2;go_roundw;exact⟨k+1,g,cp,lk,Oo,Gg,rfl,Oo,HF⟩;exact Im
  rw[fE rfl]at e1;have E1:=ay e1;clear e1;go_wp2_with fail;apply HK.o.mn;intro w1 hw1;subst w1;go_wp2_with (first
   |(at_builtin;refine wpList_append_lies _ rfl _ _ 24 rfl _ 3 _ _ 1 8 underlying24 hi b1 b7 b8 rfl Dd (sZ g 0 _ _) _ _ rfl (O.o.2.1.alloc _) (az _ 0) 1 1 _ rfl rfl (qH _ _ _) (λu hu=>by simp at hu;subst hu;rfl) Dd Um Oo Sy _ rfl ?_;intro g3 cp3 w3 a4 M a7 a8)|fail)
  have HF:Hh (lk+1=(I (k+1)).length/\w3.ownsRow w.1.size 3 1 (sZ g3 0 (lk+1) cp3) (lk+1) ((I (k+1)).map ai)/\Bl w w3):=ay (by
   rw[E1.o,lA,lS,mA];exact⟨by rw[O.o.1],a4,(O.2.2.alloc b9 _).grown M Sy (λq hq=>(O.2.1.lt q hq).1)⟩)
  clear a4 M a7 a8 O;go_roundw;exact⟨k+1,g3,cp3,lk+1,Oo,Gg,rfl,Oo,HF⟩;exact Im
 obtain rfl:k=n:=Oo;have i1:=aY k;obtain⟨h1,h3,h4⟩:=O.o;have HF:Hh (wr.ownsRow w.1.size 3 1 (.slice (some (az g 0)) (I k).length cp) (I k).length ((I k).map ai)/\Bl w wr):=ay (by rw[<-h1];exact⟨h3,h4⟩);have H1:=ay h1;clear h1 h3 h4 O;go_wp2;go_ret;exact⟨g,cp,by rw[H1.o];rfl,HF.1,HF.2⟩
theorem Zy(h:qb l=true)(hi:i<l.length):xV l i=true:=by
 unfold qb at h;rw[aT]at h;exact h i (by simpa using hi)
theorem Q8(h:qb l=true):∀i,i<l.length->(i:Int)<=l.getD i 0/\l.getD i 0<6
 |0,hi=>by
  have:=Zy h hi;unfold xV at this;simp only[bV,dE]at this;omega
 |i+1,hi=>by
  have:=Zy h hi;have I:=Q8 h i Oo;unfold xV at this;simp only[bV,Bool.or_eq_true,dE,Nat.add_sub_cancel]at this;omega
theorem xz(h:qb l=true):l.length<=6:=by
 rcases dL 6 l.length with I|I;have:=Q8 h 6 I;omega;exact I
theorem xK(h:qb l=true):l.Pairwise (·< ·):=by
 have step:∀j,j<l.length->∀i,i<j->l.getD i 0<l.getD j 0:=by
  intro j;induction j with
  |zero=>intro _ i hi;omega
  |succ j ih=>
   intro I i hi;have:=Zy h I;unfold xV at this;simp only[bV,Bool.or_eq_true,dE,Nat.add_sub_cancel]at this;by_cases e:i=j;subst e;omega;have:=ih Oo i Oo;omega
 rw[List.pairwise_iff_getElem];intro i j hi I K;have:=step j I i K;rw[gD,gE hi,gD,gE I]at this;exact this
theorem qL{vs rows ws}(h:ql vs rows ws=true):qb vs=true/\rows.length<=10000/\∀r∈rows,r.length=vs.length:=by
 unfold ql at h;simp only[bV,dE]at h;refine⟨h.1.1.1,h.1.1.2,λr M=>?_⟩;have⟨i,hi,e⟩:=gO M;have I:=h.1.2;unfold yM at I;rw[aT]at I;have K:=I i (by simpa using hi);unfold rowAt at K;simp only[bV,dE]at K;rw[gD,gE hi,dI,e]at K;omega
def YY(vs:LI)(rows:LL)(ws vars:LI):Bool:=ql vs rows ws&&qb vars&&Z3 vars vs
structure TQ(W:World)(B:Nat)(v0 v1 v2:Value)(us:LV)(vs:LI)(rows:LL)(ws:LI):Prop where
 o0:W.ownsRow B 3 1 v0 vs.length (vs.map ai)
 rq:RQ W B v1 us rows
 o2:W.ownsRow B 3 1 v2 ws.length (ws.map ai)
 a02:Ap' v0 v2
 a0:∀i,i<rows.length->Ap' (us.getD i undef) v0
 a2:∀i,i<rows.length->Ap' (us.getD i undef) v2
theorem TQ.nil W B:TQ W B sn sn sn [] [] [] []:=
 ⟨eK,⟨eK,rfl,λi hi=>by simp at hi,λi j _ I=>by simp at I⟩,eK,λg h=>by simp[Value.ownBlock]at h,λi hi=>by simp at hi,λi hi=>by simp at hi⟩
theorem TQ.set{off v0 v1 v2 us vs ws rows}(h:TQ W B v0 v1 v2 us vs rows ws)(I:∃cur,W.1[p]?=some (.cells cur 58 (0,0))):TQ (W.setCell (az p off) y) B v0 v1 v2 us vs rows ws:=
 ⟨qI h.o0 I Dd,h.rq.set I,qI h.o2 I Dd,h.a02,h.a0,h.a2⟩
theorem TQ.below{v0 v1 v2 us vs ws rows}(h:TQ W B v0 v1 v2 us vs rows ws)(hb:Bl W W'):TQ W' B v0 v1 v2 us vs rows ws:=
 ⟨qB h.o0 hb,h.rq.below hb,qB h.o2 hb,h.a02,h.a0,h.a2⟩
def zJ(n:Nat):LI:=List.replicate n 1
theorem Zz n:(zJ n).map ai=List.replicate n (ai 1):=by simp[zJ]
theorem uv:(zJ n).length=n:=by simp[zJ]
theorem UM w{v0 v1 v2}vv{vs rows ws vars}(h:IT w v0 v1 v2 vs rows ws)(hv:IS w vv vars)(hlv:vars.length<=1099511627776)(g6:vs.length<=1099511627776)(hS:qS rows):
 Cl 122 #[.agg #[v0,v1,v2],vv] w λe w'=>∃x0 x1 x2 us,e=.returned (.agg #[x0,x1,x2])/\(if YY vs rows ws vars=true then TQ w' w.1.size x0 x1 x2 us vars (srt (rows.map (qQ vs vars))) (zJ (srt (rows.map (qQ vs vars))).length) else TQ w' w.1.size x0 x1 x2 us [] [] [])/\Bl w w':=by
 have⟨W1,O⟩:=Ex ((aJ w #[v0,v1,v2] 58).alloc (.cells #[sn,sn,sn] 58));have d6:Bl w W1:=by rw[O];exact(aK).alloc Ss _
 have a5:Hh (TX W1 w.1.size v0 v1 v2):=(by rw[O];exact(TX.made _ _ _ _).below aK);have a9:Hh (TX W1 (w.1.size+1) sn sn sn):=(by
  rw[O];have:=TX.made (aJ w #[v0,v1,v2] 58) sn sn sn;rw[aM]at this;exact this)
 have HI:Hh (∀W,Bl W1 W->IT W v0 v1 v2 vs rows ws/\IS W vv vars):=λW hW=>⟨h.below (bt d6 hW),hv.below (bt d6 hW)⟩;have KT:=ay (vQ _ _ _ (HI _ eB).1 g6 hS);have KV:=ay λW hW=>zn W _ (HI W hW).2 hlv;have KP:=ay λW hW=>zq W _ _ _ _ (HI W hW).2 (HI W hW).1.vs hlv g6;have b1:=qBA vars vs;change Hh _ at d6;obtain⟨a0,c0,e0,-⟩:=h.vs;obtain⟨a1,c1,e1,-⟩:=h.rows;obtain⟨a2,c2,e2,-⟩:=h.ws;obtain⟨av,cv,e3,-⟩:=hv;have d0:=a5.o.c0;have d1:=a5.o.c1;have d2:=a5.o.c2;subst e0 e1 e2 e3;have HG:Hh (YY vs rows ws vars=true->(vars.length<=6/\vs.length<=6/\rows.length<=10000/\(∀r∈rows,r.length=vs.length)/\xC rows (plc (λi=>decide (vs.getD i 0∈vars)) vs.length)=rows.map (qQ vs vars))):=λhb=>by
  unfold YY at hb;simp only[bV]at hb;have⟨⟨h1,h2⟩,h3⟩:=hb;have⟨h4,h5,h6⟩:=qL h1;refine⟨xz h2,xz h4,h5,h6,JA (xK h4) (xK h2) λx hx=>?_⟩;unfold Z3 at h3;rw[aT]at h3;simpa using h3 x hx
 have b9:=ay λhb W hW=>by
  have⟨g1,g2,g3,g4,g5⟩:=HG hb;have:=uV W _ (HI W hW).1 (HI W hW).2 Oo Oo Oo g4;rw[g5]at this;exact this
 have c7:Hh (YY vs rows ws vars=true->∀W vr,Bl W1 W->(∃a c,vr=.slice a (srt (rows.map (qQ vs vars))).length c)->Cl 86 #[.slice av vars.length cv,vr] W λe w'=>∃v0 v2,e=.returned (.agg #[v0,vr,v2])/\w'.ownsRow W.1.size 3 1 v0 vars.length (vars.map ai)/\w'.ownsRow W.1.size 3 1 v2 (srt (rows.map (qQ vs vars))).length (List.replicate (srt (rows.map (qQ vs vars))).length (ai 1))/\Ap' v0 v2/\Bl W w'):=λhb W vr hW g9=>by
  have⟨g1,g2,g3,g4,g5⟩:=HG hb;exact yR W _ _ _ _ (HI W hW).2 g9 Oo (bM (yK _ _ eA) (by rw[lM];omega))
 clear h hlv g6 hS;unfold YY at *;cases ht:ql vs rows ws
 .rw[ht]at KT;clear KV KP b9 c7 HG b1 ht;generalize vs.length=l0,rows.length=l1,ws.length=l2,vars.length=l3 at *;go_enter func122,ntmps122;go_upto_region 1 with fail;rw[<-O];clear O;go_wp2_with fail;apply KT.o.mn;intro w2 I;have K:=ay (a9.o.below I);have a6:=ay (a5.o.below I);have M:=ay I;have a7:=ay (bt d6 I);clear I KT a9 d0 d1 d2 d6;have f0:=K.o.free 0;have f1:=K.o.free 1;have f2:=K.o.free 2;have r0:=K.o.c0;have r1:=K.o.c1;have r2:=K.o.c2;go_wp2_with fail;refine aU (by simp[results,results122,go_sem,r0,r1,r2]) rfl ⟨_,_,_,rfl,⟨[],TQ.nil _ _⟩,((a7.o.setCell (Nat.le_succ _) _).setCell (Nat.le_succ _) _).setCell (Nat.le_succ _) _⟩
 cases hs:qb vars
 .rw[ht]at KT;rw[hs]at KV;clear KP b9 c7 HG b1 ht hs;generalize vs.length=l0,rows.length=l1,ws.length=l2,vars.length=l3 at *;go_enter func122,ntmps122;go_upto_region 1 with fail;rw[<-O];clear O;go_wp2_with fail;apply KT.o.mn;intro w2 I;have K:=ay (a9.o.below I);have a6:=ay (a5.o.below I);have M:=ay I;have a7:=ay (bt d6 I);clear I KT a9 d0 d1 d2 d6;go_wp2_with fail;apply (KV.o _ M.o).mn;intro w3 hw3;subst w3;have f0:=K.o.free 0;have f1:=K.o.free 1;have f2:=K.o.free 2;have r0:=K.o.c0;have r1:=K.o.c1;have r2:=K.o.c2;go_wp2_with fail;refine aU (by simp[results,results122,go_sem,r0,r1,r2]) rfl ⟨_,_,_,rfl,⟨[],TQ.nil _ _⟩,((a7.o.setCell (Nat.le_succ _) _).setCell (Nat.le_succ _) _).setCell (Nat.le_succ _) _⟩
 cases hq:Z3 vars vs
 .rw[ht]at KT;rw[hs]at KV;rw[hq]at b1;have i1:((plc (λi=>decide (vars.getD i 0∈vs)) vars.length).length:Int)<(vars.length:Int):=O1 (aN (b1.trans rfl))
  clear b9 c7 HG b1 ht hs hq;generalize (plc (λi=>decide (vars.getD i 0∈vs)) vars.length).length=lp,vs.length=l0 at *;generalize rows.length=l1,ws.length=l2,vars.length=l3 at *;go_enter func122,ntmps122;go_upto_region 1 with fail;rw[<-O];clear O;go_wp2_with fail;apply KT.o.mn;intro w2 I;have K:=ay (a9.o.below I);have a6:=ay (a5.o.below I);have M:=ay I;have a7:=ay (bt d6 I);have d0:=a6.o.c0;clear I KT a9 d1 d2 d6 a5;go_wp2_with fail;apply (KV.o _ M.o).mn;intro w3 hw3;subst w3;go_wp2_with fail;apply (KP.o _ M.o).mono;rintro e w3 ⟨v3,rfl,c8,V⟩;have⟨a3,c3,e3⟩:=qt c8;subst e3;have a8:=ay (K.o.below V);have c9:=ay (a6.o.below V);have d7:=ay (bt M V);have d3:=ay (bt a7 V);clear c8 V K a6 M a7 KV KP d0;have f0:=a8.o.free 0;have f1:=a8.o.free 1;have f2:=a8.o.free 2;have r0:=a8.o.c0;have r1:=a8.o.c1;have r2:=a8.o.c2;go_wp2_with fail;refine aU (by simp[results,results122,go_sem,r0,r1,r2]) rfl ⟨_,_,_,rfl,⟨[],TQ.nil _ _⟩,((d3.o.setCell (Nat.le_succ _) _).setCell (Nat.le_succ _) _).setCell (Nat.le_succ _) _⟩
 have d4:=ay (b9 (by rw[ht,hs,hq];rfl));have d5:=ay (c7 (by rw[ht,hs,hq];rfl));rw[ht]at KT;rw[hs]at KV;rw[hq]at b1;have i1:¬(((plc (λi=>decide (vars.getD i 0∈vs)) vars.length).length:Int)<(vars.length:Int)):=O1 (of_decide_eq_false (b1.trans rfl))
 clear b9 c7 HG b1 ht hs hq;generalize (plc (λi=>decide (vars.getD i 0∈vs)) vars.length).length=lp at *;have⟨R,hR⟩:=Ex (srt (rows.map (qQ vs vars)));change Hh _ at hR;rw[<-hR]at d4 d5;generalize vs.length=l0,rows.length=l1,ws.length=l2,hl3:vars.length=l3 at *;change Hh _ at hl3;go_enter func122,ntmps122;go_upto_region 1 with fail;rw[<-O];clear O;go_wp2_with fail;apply KT.o.mn;intro w2 I;have K:=ay (a9.o.below I);have a6:=ay (a5.o.below I);have M:=ay I;have a7:=ay (bt d6 I);have d0:=a6.o.c0;clear I KT a9 d1 d2 d6 a5;go_wp2_with fail;apply (KV.o _ M.o).mn;intro w3 hw3;subst w3;go_wp2_with fail;apply (KP.o _ M.o).mono;rintro e w3 ⟨v3,rfl,c8,V⟩;have⟨a3,c3,e3⟩:=qt c8;subst e3;have a8:=ay (K.o.below V);have c9:=ay (a6.o.below V);have d7:=ay (bt M V);have d3:=ay (bt a7 V);clear c8 V K a6 M a7 KV KP d0;have d0:=c9.o.c0;have d1:=c9.o.c1;have d2:=c9.o.c2;go_wp2_with fail;apply (d4.o _ d7.o).mono;rintro e w4 ⟨v4,us,rfl,d8,d9⟩;have g8:=ay (a8.o.below d9);have e7:=ay (bt d3 d9);have e8:=ay (d8.base d3.o.size);have f9:=ay (d5 _ _ (bt d7 d9) d8.sl);have⟨a4,c4,e4⟩:=d8.sl;subst e4;clear d8 d9 d4 d5 d0 d1 d2 c9 a8 d7 d3;go_wp2_with fail;apply f9.o.mono;rintro e w5 ⟨x0,x2,rfl,e9,f7,hap,f8⟩;have b8:=ay (g8.o.below f8);have h9:=ay (bt e7 f8);have i0:Hh (TQ w5 w.1.size x0 (.slice a4 R.length c4) x2 us vars R (zJ R.length)):=⟨qE (by rw[hl3.o];exact e9) e7.o.size,e8.o.below f8,qE (by rw[uv,Zz];exact f7) e7.o.size,hap,λi hi g h1 h2=>by
  have e1:=((e8.o.each i hi).lt g h1).2;have e2:=(e9.lt g h2).1;omega,λi hi g h1 h2=>by
  have e1:=((e8.o.each i hi).lt g h1).2;have e2:=(f7.lt g h2).1;omega⟩
 have⟨b0,k0,e5⟩:=qt e9;have⟨b2,k2,e6⟩:=qt f7;subst e5 e6;clear e9 f7 hap f8 f9 g8 e7 e8;have f0:=b8.o.free 0;have f1:=b8.o.free 1;have f2:=b8.o.free 2;have r0:=b8.o.c0;have r1:=b8.o.c1;have r2:=b8.o.c2;have g7:=ay b8.o.typ;go_wp2_with fail;refine aU (v:=.agg #[.slice b0 l3 k0,.slice a4 R.length c4,.slice b2 R.length k2]) (by simp[results,results122,go_sem,r0,r1,r2]) rfl ⟨_,_,_,rfl,⟨us,?_⟩,((h9.o.setCell (Nat.le_succ _) _).setCell (Nat.le_succ _) _).setCell (Nat.le_succ _) _⟩;rw[<-hR.o];exact((i0.o.set g7).set (qU g7)).set (qU (qU g7))
theorem TX.set2{v0 v1 v2}(h:TX W p v0 v1 v2)y:TX (W.setCell (az p 2) y) p v0 v1 y:=⟨by rw[eN h.blk];rfl⟩
theorem TX.grown{v0 v1 v2}(h:TX W p v0 v1 v2)(I:W.ownsRow B e s u n xs)(K:e≠58)(M:(W.alloc o).grownBy w3 u.ownBlock):TX w3 p v0 v1 v2:=⟨(zD M h.lt (own_ne I h.typ K)).trans h.blk⟩
structure KX(W:World)(B p:Nat)(v0 v1 v2:Value)(us:LV)(vs:LI)(rows:LL)(ws:LI):Prop where
 tx:TX W p v0 v1 v2
 tq:TQ W B v0 v1 v2 us vs rows ws
 lo:B<=p
section
variable {W W' w3:World} {B p:Nat} {v0 v1 v2 v' u:Value} {us:LV} {vs ws l:LI} {rows:LL} {o:Obj} {x:Int}
theorem KX.below(h:KX W B p v0 v1 v2 us vs rows ws)(hb:Bl W W'):KX W' B p v0 v1 v2 us vs rows ws:=⟨h.tx.below hb,h.tq.below hb,h.lo⟩
theorem TX.set1(h:TX W p v0 v1 v2)y:TX (W.setCell (az p 1) y) p v0 y v2:=⟨by rw[eN h.blk];rfl⟩
theorem KX.pushR(h:KX W B p v0 v1 v2 us vs rows ws)(hu:W.ownsRow B 3 1 u l.length (l.map ai))(hr:∀i,i<rows.length->∀g,(us.getD i undef).ownBlock=some g->u.ownBlock≠some g)(h0:Ap' u v0)(h2:Ap' u v2)
 (I:w3.ownsRow B 24 1 v' (rows.length+1) (us++[u])) (O:(W.alloc o).grownBy w3 v1.ownBlock):KX (w3.setCell (az p 1) v') B p v0 v' v2 (us++[u]) vs (rows++[l]) ws:=by
 have M:=h.tx.grown h.tq.rq.own Dd O;have hint:∀{y:Value} {k:Nat} {xs:LV},W.ownsRow B 3 1 y k xs->w3.ownsRow B 3 1 y k xs:=λV=>
  qD V λg K=>zD O (V.lt g K).2 (own_ne h.tq.rq.own (qK V K) Dd)
 have hl:=h.tq.rq.len;have e1:∀i,i<rows.length->(us++[u]).getD i undef=us.getD i undef:=λi hi=>by rw[gD,aL Oo,<-gD]
 have e2:(us++[u]).getD rows.length undef=u:=by rw[gD,bQ Oo,show rows.length-us.length=0 by omega];rfl
 refine⟨M.set1 _,⟨qI (hint h.tq.o0) M.typ Dd,(h.tq.rq.step hu hr I O).set M.typ,qI (hint h.tq.o2) M.typ Dd,h.tq.a02,λi hi=>?_,λi hi=>?_⟩,h.lo⟩
 .rw[lA,lS]at hi;by_cases e:i<rows.length;rw[e1 i e];exact h.tq.a0 i e;obtain rfl:i=rows.length:=Oo;rw[e2];exact h0
 rw[lA,lS]at hi;by_cases e:i<rows.length;rw[e1 i e];exact h.tq.a2 i e;obtain rfl:i=rows.length:=Oo;rw[e2];exact h2
theorem KX.pushW(h:KX W B p v0 v1 v2 us vs rows ws)(K:w3.ownsRow B 3 1 v' (ws.length+1) (ws.map ai++[ai x]))(V:(W.alloc o).grownBy w3 v2.ownBlock)(a3:∀g,v'.ownBlock=some g->v2.ownBlock=some g\/W.1.size<=g):
 KX (w3.setCell (az p 2) v') B p v0 v1 v' us vs rows (ws++[x]):=by
 have M:=h.tx.grown h.tq.o2 Dd V;have ap:∀{y:Value} {k:Nat} {xs:LV},W.ownsRow B 3 1 y k xs->Ap' y v2->Ap' y v':=λO ha g h1 h2=>by
  rcases a3 g h2 with h3|h3;exact ha g h1 h3;have:=(O.lt g h1).2;omega
 have hint:∀{y:Value} {k:Nat} {xs:LV},W.ownsRow B 3 1 y k xs->Ap' y v2->w3.ownsRow B 3 1 y k xs:=λO ha=>
  qD O λg I=>zD V (O.lt g I).2 (λe=>ha g I e.symm)
 refine⟨M.set2 _,⟨qI (hint h.tq.o0 h.tq.a02) M.typ Dd,⟨?_,h.tq.rq.len,λi hi=>qI (hint (h.tq.rq.each i hi) (h.tq.a2 i hi)) M.typ Dd,h.tq.rq.ap⟩,?_,ap h.tq.o0 h.tq.a02,h.tq.a0,λi hi=>ap (h.tq.rq.each i hi) (h.tq.a2 i hi)⟩,h.lo⟩;refine qI (qD h.tq.rq.own λg I=>zD V (h.tq.rq.own.lt g I).2 (own_ne h.tq.o2 (qK h.tq.rq.own I) Dd)) M.typ Dd;refine qI ?_ M.typ Dd;rw[lA,lS,mA];exact K
theorem KX.made{v0}(hv:W.ownsRow B 3 1 v0 vs.length (vs.map ai))(hB:B<=W.1.size):KX (W.alloc (.cells #[v0,sn,sn] 58)) B W.1.size v0 sn sn [] vs [] []:=
 ⟨TX.made _ _ _ _,⟨hv.alloc _,⟨eK,rfl,λi hi=>by simp at hi,λi j _ I=>by simp at I⟩,eK,λg _ h=>by simp[Value.ownBlock]at h,λi hi=>by simp at hi,λi hi=>by simp at hi⟩,hB⟩
end
open Meet
theorem Tryz.infoTrieP:(Tryz.prog.info? 181).map (λi=>(i.zero,i.size,i.bytes))=some (some (.pointer none),1,8):=Kl
theorem Vh(h:w.ownsRow B e s v n xs):∃a cap,v=.slice a n cap:=by
 rcases h.2 with ⟨rfl,I⟩|⟨g,cap,cur,rfl,_⟩;exact⟨none,0,by rw[I]⟩;exact⟨_,cap,rfl⟩
def TS(W0 W:World)(rs:LL)(K root:Nat):Prop:=∃D N f g0 g1,TM rs D N/\TR W W0.1.size D N N f g0 g1/\f []=root/\(∀p,D p->(N p).length<=K)/\Bl W0 W
def LST(W0 W:World)(rs:LL)(r:LI)(i K root node:Nat):Prop:=∃D N f g0 g1,TM (rs++[r.take i]) D N/\TR W W0.1.size D N N f g0 g1/\f []=root/\f (r.take i)=node/\(∀p,D p->(N p).length<=K+1/\(i<=p.length->(N p).length<=K))/\Bl W0 W
theorem LST.start r(h:TS W0 W rs K root):LST W0 W rs r 0 K root root:=by
 have⟨D,N,f,g0,g1,V,hT,I,M,hb⟩:=h;exact⟨D,N,f,g0,g1,V.begin,hT,I,I,λp O=>⟨O1 (M p O),λ_=>M p O⟩,hb⟩
theorem LST.done(h:LST W0 W rs r r.length K root node):TS W0 W (rs++[r]) (K+1) root:=by
 obtain⟨D,N,f,g0,g1,I,M,O,-,V,hb⟩:=h;exact⟨D,N,f,g0,g1,I.done,M,O,λp hp=>(V p hp).1,hb⟩
theorem LST.hit(h:LST W0 W rs r i K root node)(hi:i<r.length)(hs:∀s∈rs,cmpL s r<0):
 (∃m ga ca gb cb nx,W.cell? (az node 0)=some (sZ ga 0 (m+1) ca)/\W.cell? (az node 1)=some (sZ gb 0 (m+1) cb)/\W.cell? (az ga m)=some (ai (r.getD i 0))/\W.cell? (az gb m)=some (.pointer (some (az nx 0)))/\m+1<=K/\LST W0 W rs r (i+1) K root nx)
 \/(∃D N f g0 g1,r.getD i 0∉N (r.take i)/\TM (rs++[r.take i]) D N/\TR W W0.1.size D N N f g0 g1/\f []=root/\f (r.take i)=node/\(∀p,D p->(N p).length<=K+1/\(i<=p.length->(N p).length<=K))/\Bl W0 W):=by
 have⟨D,N,f,g0,g1,V,M,hr,I,hk,hb⟩:=h;have O:=V.here;by_cases hx:r.getD i 0∈N (r.take i)
 .refine .inl ?_;have⟨h0,h1⟩:=qIa (V.asc _ O) hx (V.le hi hs);obtain⟨m,hm⟩:∃m,(N (r.take i)).length=m+1:=⟨(N (r.take i)).length-1,Oo⟩;rw[hm,Nat.add_sub_cancel]at h1;have hg:(N (r.take i))[m]?=some (r.getD i 0):=by
   rw[gD,gE Oo,dI]at h1;rw[gE Oo,h1]
  have⟨ga,ca,ea,a3⟩:=xg (M.o0 _ O) (j:=m) Oo;have⟨gb,cb,eb,a4⟩:=xg (M.o1 _ O) (j:=m) Oo;rw[bK,hg]at a3 a4;have a5:=(hk _ O).2 (by rw[bZ];omega);refine⟨m,ga,ca,gb,cb,f (r.take i++[r.getD i 0]),?_,?_,a3,a4,Oo,D,N,f,g0,g1,V.hit hi hx,M,hr,by rw[qy hi],λp hp=>⟨(hk p hp).1,λhl=>(hk p hp).2 Oo⟩,hb⟩;rw[<-I,M.c0 O,ea,hm];rw[<-I,M.c1 O,eb,hm]
 exact .inr ⟨D,N,f,g0,g1,hx,V,M,hr,I,hk,hb⟩
theorem LST.miss(hi:i<r.length)(hs:∀s∈rs,cmpL s r<0)(hx:r.getD i 0∉N (r.take i))(hM:TM (rs++[r.take i]) D N)
 (hT:TR I W0.1.size D (λq=>if q=r.take i then N (r.take i)++[r.getD i 0] else N q) N f g0 g1) (hr:f []=root) (hk:∀p,D p->(N p).length<=K+1/\(i<=p.length->(N p).length<=K)) (hb:Bl W0 I)
 (M:w3.ownsRow W0.1.size 181 1 v' ((N (r.take i)).length+1) (((N (r.take i)).map λx=>.pointer (some (az (f (r.take i++[x])) 0)))++[.pointer (some (az I.1.size 0))]))
 (hg:((I.alloc (.cells #[sn,sn] 228)).alloc o).grownBy w3 (g1 (r.take i)).ownBlock) (a3:∀g,v'.ownBlock=some g->(g1 (r.take i)).ownBlock=some g\/I.1.size<=g):
 LST W0 (w3.setCell (az (f (r.take i)) 1) v') rs r (i+1) K root I.1.size:=by
 have O:=hM.here;have V:¬D (r.take i++[r.getD i 0]):=λhd=>hx ((hM.mem _ O _).2 hd);have hs1:=hb.size;have a4:=hT.belw O V hx hb.size (N0':=kX N (r.take i) (r.getD i 0)) (λq hq=>by
  unfold kX;by_cases e:q=r.take i;rw[fE e,fE e];rw[fF e,fF e,fF (λe2=>V (by rw[<-e2];exact hq))]) (by unfold kX;rw[fF (Xc _ _),fE rfl]) M hg a3
 refine⟨_,_,_,_,_,hM.miss hi hs hx,a4,?_,?_,λp hp=>?_,?_⟩;show(if _ then _ else _)=_;rw[fF Ss];exact hr;show(if _ then _ else _)=_;rw[fE (qy hi)]
 .have a5:(r.take i).length=i:=by rw[bZ];omega
  unfold kX;by_cases e:p=r.take i;have:=(hk _ O).2 Oo;rw[fE e,lA,lS];refine⟨Oo,λhl=>?_⟩;rw[e,a5]at hl;omega;rw[fF e];by_cases e2:p=r.take i++[r.getD i 0];rw[fE e2];exact⟨eC,λ_=>eC⟩;rw[fF e2];have hd:=hp.resolve_right e2;exact⟨(hk p hd).1,λhl=>(hk p hd).2 Oo⟩
 exact(((hb.alloc hs1 _).alloc Sy _).grown hg Sy (λg a6=>((hT.o1 _ O).lt g a6).1)).setCell (hT.low _ O) _
theorem Vi{t}:∀j u,[v][j]?=some u->((w.alloc o).alloc (.cells #[v] t)).cell? (((az (w.1.size+1) 0):Addr).add j)=some u:=by
 have:=qH (w.alloc o) v t;rw[aM]at this;exact this
theorem JH{cs:AV}{t}(h:W.1[b]?=some (.cells cs t (0,0))):W.frozen? (az b j)=false:=by unfold World.frozen?;rw[h];simp
theorem LST.half{g3 cp3 a3 k1}{a1:OA}(hi:i<r.length)(hs:∀s∈rs,cmpL s r<0)(hx:r.getD i 0∉N (r.take i))(hM:TM (rs++[r.take i]) D N)
 (hT:TR W W0.1.size D N N f g0 g1) (hr:f []=root) (hk:∀p,D p->(N p).length<=K+1/\(i<=p.length->(N p).length<=K)) (hb:Bl W0 W) (h1:g1 (r.take i)=.slice a1 a3 k1)
 (a5:w3.ownsRow W0.1.size 3 1 (sZ g3 0 ((N (r.take i)).length+1) cp3) ((N (r.take i)).length+1) ((N (r.take i)).map ai++[ai (r.getD i 0)])) (hg:(W.alloc o).grownBy w3 (g0 (r.take i)).ownBlock) (a7:(g0 (r.take i)).ownBlock=some g3\/g3=(W.alloc o).1.size):
 ∃W2 xs,W2=w3.setCell (az (f (r.take i)) 0) (sZ g3 0 ((N (r.take i)).length+1) cp3)/\W2.cell? (az (f (r.take i)) 1)=some (.slice a1 a3 k1)/\W2.ownsRow W0.1.size 181 1 (.slice a1 a3 k1) (N (r.take i)).length xs/\W0.1.size<=W2.1.size
  /\∀w4 o' g4 M,w4.ownsRow W0.1.size 181 1 (sZ g4 0 ((N (r.take i)).length+1) M) ((N (r.take i)).length+1) (xs++[.pointer (some (az W2.1.size 0))])->((W2.alloc (.cells #[sn,sn] 228)).alloc o').grownBy w4 (Value.slice a1 a3 k1).ownBlock->((Value.slice a1 a3 k1).ownBlock=some g4\/g4=((W2.alloc (.cells #[sn,sn] 228)).alloc o').1.size)->
   (w4.frozen? (az (f (r.take i)) 1)=false/\w4.cell? (az (f (r.take i)) 1)=some (.slice a1 a3 k1))/\(w4.setCell (az (f (r.take i)) 1) (sZ g4 0 ((N (r.take i)).length+1) M)).cell? (az (f (r.take i)) 1)=some (sZ g4 0 ((N (r.take i)).length+1) M)/\(w4.setCell (az (f (r.take i)) 1) (sZ g4 0 ((N (r.take i)).length+1) M)).cell? (az g4 ((N (r.take i)).length))=some (.pointer (some (az W2.1.size 0)))
   /\LST W0 (w4.setCell (az (f (r.take i)) 1) (sZ g4 0 ((N (r.take i)).length+1) M)) rs r (i+1) K root W2.1.size:=by
 have hh:=hM.here;have O:=hT.vals hh a5 hg (λg I=>by
  simp only[Value.ownBlock,oI]at I;subst I;rcases a7 with h2|h2;exact .inl h2;exact .inr (by rw[h2];simp))
 have hs1:=hb.size;have a6:Bl W0 (sC w3 (f (r.take i)) 0 (sZ g3 0 ((N (r.take i)).length+1) cp3)):=((hb.alloc hs1 _).grown hg Sy (λg I=>((hT.o0 _ hh).lt g I).1)).setCell (hT.low _ hh) _;refine⟨_,_,rfl,by rw[O.c1 hh,h1],by have:=O.o1 _ hh;rw[h1]at this;exact this,a6.size,λw4 o' g4 M V hg4 a4=>?_⟩;rw[<-h1]at hg4 a4;have hblk:=(J3 hg4 (O.lt hh) (own_ne (O.o1 _ hh) (O.typ hh) Dd)).trans (O.blk _ hh);refine⟨⟨JH hblk,by rw[eI hblk,<-h1];rfl⟩,?_,?_,LST.miss hi hs hx hM O hr hk a6 V hg4 (λg I=>by
  simp only[Value.ownBlock,oI]at I;subst I;rcases a4 with h2|h2;exact .inl h2;exact .inr (by rw[h2];simp;omega))⟩
 have:=bI _ _ 1 _ _ (sZ g4 0 ((N (r.take i)).length+1) M) hblk;rw[eI this];rfl;have⟨g,c,e,h2⟩:=xg (qD (w':=sC w4 (f (r.take i)) 1 (sZ g4 0 ((N (r.take i)).length+1) M)) V λg I=>eG (λe2=>own_ne V ⟨_,hblk⟩ Dd (by rw[I];exact congrArg _ e2.symm))) (j:=(N (r.take i)).length) Oo;simp only[vI,oI,Addr.mk.injEq]at e;rw[<-e.1.1]at h2;rw[h2,bQ Ss,lM,Nat.sub_self];rfl
theorem qFW W0 w K vr(h:TS W0 w rs K root)(hr:IS W0 vr r)(hl:r.length<=1000)(hs:∀s∈rs,cmpL s r<0)(hK:K<=1000000):
 Cl 160 #[.pointer (some (az root 0)),vr] w λe w'=>(∃v,e=.returned v)/\TS W0 w' (rs++[r]) (K+1) root:=by
 have⟨i0,hi,d9,e2,e3⟩:=aX Tryz.infoInt;have⟨iP,hj,e4,e5,e6⟩:=aX Tryz.infoTrieP;obtain⟨ar,cr,rfl,hc⟩:=hr;have HC:Hh (∀W,Bl W0 W->∀j,j<r.length->∃(b o:Nat),ar=some (az b o)/\W.cell? (az b (o+j))=some (ai (r.getD j 0))):=λW hW j hj=>by
  rcases hc with h0|⟨b,o,rfl,h⟩;omega;exact⟨b,o,rfl,(hW.cell (bL _ _ (h j hj))).trans (h j hj)⟩
 have HL:=ay (LST.start r h);have HS:=ay hs;have HD:Hh (∀W nd,LST W0 W rs r r.length K root nd->TS W0 W (rs++[r]) (K+1) root):=λW nd h=>h.done;have HR:Hh (∀j,j<r.length->∀W nd,LST W0 W rs r j K root nd->Bl W0 W):=λj _ W nd ⟨_,_,_,_,_,_,_,_,_,_,hb⟩=>hb;have HH:Hh (∀j,j<r.length->∀W nd,LST W0 W rs r j K root nd->_):=λj hj W nd h=>h.hit hj hs;have HM:Hh (r.length=r.length):=rfl;have⟨n,hn⟩:=Ex r.length;clear hc h hs;rw[<-hn]at HC HD HR HH hl HM |-;have d3:=ay hn;clear hn HM;go_enter func160,ntmps160;go_wp2;go_loopw [0,9] (λu t wr=>∃(j nd:Nat),j<=n/\t=ai j/\u=.pointer (some (az nd 0))/\Hh (LST W0 wr rs r j K root nd)) (λ_ t _=>n-(intOf t).toNat);exact⟨0,root,eC,rfl,rfl,HL⟩;clear HL;obtain⟨j,nd,g6,rfl,rfl,HT⟩:=hrel;by_cases c8:j<n
 .have i1:=aV c8;have⟨b,o,ea,e1⟩:=HC _ (HR j c8 wr nd HT) j c8;subst ea;rcases HH.o j c8 wr nd HT.o with ⟨m,ga,ca,gb,cb,nx,c0,c1,c2,c3,g7,hL⟩|⟨D,N,f,g0,g1,hx,hM,a6,e7,c9,hk,hb⟩
  .have HL:=ay hL;clear hL HH HR HD HC HS HT d3;generalize r.getD j 0=x at *;go_wp2;go_roundw;exact⟨j+1,nx,Oo,Gg,rfl,HL⟩;exact Im
  have hh:=hM.here;have e8:j<r.length:=by rw[<-d3.o];exact c8
  have g8:=(hk _ hh).2 (by rw[bZ];omega);have⟨a0,k0,e0⟩:=Vh (a6.o0 _ hh);have⟨a1,k1,f7⟩:=Vh (a6.o1 _ hh);have d0:Hh (∀w3 o,(wr.alloc o).grownBy w3 (Value.slice a0 (N (r.take j)).length k0).ownBlock->w3.frozen? (az nd 0)=false/\w3.cell? (az nd 0)=some (.slice a0 (N (r.take j)).length k0)):=λw3 o hg=>by
   rw[<-e0]at hg;have:=a6.kept0 hh hg hh;rw[c9]at this;exact⟨JH this,by rw[eI this,<-e0];rfl⟩
  have a9:=ay λw3 o g3 cp3 f8 hg f9=>LST.half (w3:=w3) (o:=o) (g3:=g3) (cp3:=cp3) e8 HS hx hM a6 e7 hk hb f7 f8 hg f9;have d2:=ay (by have:=a6.o0 _ hh;rw[e0]at this;exact this);have c0:=a6.c0 hh;rw[e0,c9]at c0;rw[e0,c9]at a9;have hs1:=hb.size;have d4:(N (r.take j)).length=0\/∃m ga y,(N (r.take j)).length=m+1/\a0=some (az ga 0)/\wr.cell? (az ga m)=some (ai y)/\y≠r.getD j 0:=by
   rcases Nat.eq_zero_or_pos (N (r.take j)).length with h0|h0;exact .inl h0;obtain⟨m,hm⟩:∃m,(N (r.take j)).length=m+1:=⟨(N (r.take j)).length-1,Oo⟩;have⟨ga,ca,ea,g5⟩:=xg (a6.o0 _ hh) (j:=m) Oo;rw[e0]at ea;simp only[vI]at ea;refine .inr ⟨m,ga,_,hm,ea.1,?_,qGx hx h0⟩;have e9:(N (r.take j)).getD ((N (r.take j)).length-1) 0=(N (r.take j))[m]' Oo:=by
    rw[gD,gE Oo,dI];simp only[hm,Nat.add_sub_cancel]
   rw[g5,bK,gE Oo,e9];rfl
  clear HH HR HD HC HT HS hx hM a6 e7 c9 hk hb hh e0 f7 e8 d3;generalize r.getD j 0=x at *;generalize (N (r.take j)).length=l0 at *;rcases d4 with h0|⟨m,ga,y,h0,ea,cy,hy⟩
  .subst h0;go_upto_region 6 with (at_builtin;(refine wpList_append_lies _ rfl _ _ 24 rfl _ 3 _ _ 1 8 underlying24 hi d9 e2 e3 rfl Dd (.slice _ _ _) _ _ rfl (d2.o.alloc _) (az _ 0) 1 1 _ rfl rfl (qH _ _ _) (λu hu=>by simp at hu;subst hu;rfl) Dd Um Oo Sy _ rfl ?_;intro g3 cp3 w3 a3 I a7 b1;obtain⟨d5,d6⟩:=d0 _ _ I));obtain⟨W2,xs,b7,d1,b8,hs2,a4⟩:=a9 _ _ _ _ a3 I a7;have b9:=ay b8;have O:=ay a4;rw[<-b7];clear b7 a3 I a7 b1 d5 d6 b8 a4 a9 d0 d2 c0;go_upto_region 7 with (at_builtin;(refine wpList_append_lies _ rfl _ _ 176 rfl W0.1.size 181 iP (.pointer none) 1 8 underlying176 hj e4 e5 e6 rfl Dd (.slice a1 0 k1) _ xs rfl ((b9.o.alloc _).alloc _) (az _ 0) 1 1 [.pointer (some (az W2.1.size 0))] rfl rfl (Vi) (λu hu=>by simp at hu;subst hu;rfl) Dd Um Oo Sy _ rfl ?_;intro g4 a8 w4 V M a5 c7;obtain⟨d7,d8⟩:=(O _ _ _ _ V M a5).1));obtain⟨-,q1,q2,hL⟩:=O _ _ _ _ V M a5;have HL:=ay hL;clear hL V M a5 c7 d7 d8 O b9 d1;generalize sC w4 nd 1 (sZ g4 0 (0+1) a8)=W5 at *;go_wp2;go_roundw;exact⟨j+1,W2.1.size,Oo,Gg,rfl,HL⟩;exact Im
  subst h0 ea;have dm:decide ((m:Int)<0)=false:=fC Oo;have yx:(y != x)=true:=by simpa using hy
  go_upto_region 6 with (at_builtin;(refine wpList_append_lies _ rfl _ _ 24 rfl _ 3 _ _ 1 8 underlying24 hi d9 e2 e3 rfl Dd (sZ _ 0 _ _) _ _ rfl (d2.o.alloc _) (az _ 0) 1 1 _ rfl rfl (qH _ _ _) (λu hu=>by simp at hu;subst hu;rfl) Dd Um Oo Sy _ rfl ?_;intro g3 cp3 w3 a3 I a7 b1;obtain⟨d5,d6⟩:=d0 _ _ I));obtain⟨W2,xs,b7,d1,b8,hs2,a4⟩:=a9 _ _ _ _ a3 I a7;have b9:=ay b8;have O:=ay a4;rw[<-b7];clear b7 a3 I a7 b1 d5 d6 b8 a4 a9 d0 d2 c0 cy;go_upto_region 7 with (at_builtin;(refine wpList_append_lies _ rfl _ _ 176 rfl W0.1.size 181 iP (.pointer none) 1 8 underlying176 hj e4 e5 e6 rfl Dd (.slice a1 (m+1) k1) _ xs rfl ((b9.o.alloc _).alloc _) (az _ 0) 1 1 [.pointer (some (az W2.1.size 0))] rfl rfl (Vi) (λu hu=>by simp at hu;subst hu;rfl) Dd Um Oo Sy _ rfl ?_;intro g4 a8 w4 V M a5 c7;obtain⟨d7,d8⟩:=(O _ _ _ _ V M a5).1));obtain⟨-,q1,q2,hL⟩:=O _ _ _ _ V M a5;have HL:=ay hL;clear hL V M a5 c7 d7 d8 O b9 d1;generalize sC w4 nd 1 (sZ g4 0 (m+1+1) a8)=W5 at *;go_wp2;go_roundw;exact⟨j+1,W2.1.size,Oo,Gg,rfl,HL⟩;exact Im
 obtain rfl:j=n:=Oo;have i1:=aY j;have HF:=ay (HD _ _ HT);clear HC HD HR HH HT HS;go_wp2;go_end0
 exact⟨⟨_,rfl⟩,HF⟩
theorem TS.start w:TS w (w.alloc (.cells #[sn,sn] 228)) [] 0 w.1.size:=by
 refine⟨_,_,λ_=>w.1.size,λ_=>sn,λ_=>sn,TM.none,⟨λp _=>eO,λp _=>eA,λp _=>eK,λp _=>eK,λp q I hq _=>I.trans hq.symm,λp q _ _ _ g h=>by simp[Value.ownBlock]at h,λp q _ _ _ g h=>by simp[Value.ownBlock]at h⟩,rfl,λp _=>eA,aK⟩
theorem TS.bw(h:TS W0 W rs K root):Bl W0 W:=by
 have⟨_,_,_,_,_,_,_,_,_,hb⟩:=h;exact hb
theorem qIZ{rows}(h:SL rows)(I:j<rows.length):∀s∈rows.take j,cmpL s (rows.getD j [])<0:=λs hs=>by
 have⟨i,hi,e⟩:=gO hs;rw[bZ]at hi;rw[List.getElem_take]at e;have:=List.pairwise_iff_getElem.1 h i j Oo I Oo;rw[gD,gE I,<-e];exact this
theorem XK w vr rows(hr:ISS w vr rows)(hS:SL rows)(hn:rows.length<=100000)(hl:∀r∈rows,r.length<=1000):
 Cl 125 #[vr] w λe w'=>∃c,e=.returned (.pointer c)/\(rows=[]/\c=none\/rows≠[]/\∃root,c=some (az root 0)/\TS w w' rows rows.length root)/\Bl w w':=by
 obtain⟨ar,cr,rfl,hc⟩:=hr;have M:Hh (∀W,Bl w W->∀j,j<rows.length->∃(b o:Nat) (u:Value),ar=some (az b o)/\aC W b (o+j) u/\IS w u (rows.getD j [])):=λW hW j K=>by
  rcases hc with h0|⟨b,o,rfl,h⟩;omega;have⟨u,h1,h2⟩:=h j K;exact⟨b,o,u,rfl,(hW.cell (bL w _ h1)).trans h1,h2⟩
 have O:Hh (∀W u j,j<rows.length->TS w W (rows.take j) j w.1.size->IS w u (rows.getD j [])->Cl 160 #[.pointer (some (az w.1.size 0)),u] W λe w'=>(∃v,e=.returned v)/\TS w w' (rows.take (j+1)) (j+1) w.1.size):=λW u j K hT hu=>by
  have e:rows.take (j+1)=rows.take j++[rows.getD j []]:=by
   rw[tA,gE K,gD,gE K];rfl
  rw[e];exact qFW w W j u hT hu (hl _ (by rw[gD,gE K];exact gM _)) (qIZ hS K) Oo
 have H0:=ay (TS.start w);have V:Hh (∀W,TS w W (rows.take rows.length) rows.length w.1.size->TS w W rows rows.length w.1.size):=λW h=>by rw[tL]at h;exact h
 have HZ:Hh (rows.length=0->rows=[]):=λh=>dV.1 h;have I:Hh (0<rows.length->rows≠[]):=λh e=>by rw[e]at h;simp at h
 have a3:Hh (rows.take 0=[]):=rfl;clear hc hS hl;have⟨n,a4⟩:=Ex rows.length;rw[<-a4]at M O V HZ I hn |-;clear a4;rcases Nat.eq_zero_or_pos n with h0|h0
 .subst h0;have hz:=HZ rfl;clear M O V HZ I H0;go_enter func125,ntmps125;go_wp2;go_ret;exact⟨_,rfl,.inl ⟨hz,rfl⟩,eB⟩
 have i0:((n:Int) == 0)=false:=Sy;have hz:=ay (I h0);clear HZ I;go_enter func125,ntmps125;go_upto_region 4 with fail;generalize aJ w #[sn,sn] 228=W1 at *;go_wp2;go_loopw [13] (λt wr=>∃(j:Nat),j<=n/\t=ai j/\Hh (TS w wr (rows.take j) j w.1.size)) (λt _=>n-(intOf t).toNat);exact⟨0,eC,rfl,ay (by rw[a3.o];exact H0)⟩;clear H0 a3;obtain⟨j,K,rfl,HT⟩:=hrel;by_cases a5:j<n
 .have i1:=aV a5;have⟨b,o,u,ea,e1,hu⟩:=M _ HT.o.bw j a5;subst ea;have a6:=ay (O _ u j a5 HT hu);obtain⟨au,cu,rfl,-⟩:=hu;clear M O V HT;generalize (rows.getD j []).length=lr at *;go_wp2_with fail;apply a6.o.mono;rintro e w2 ⟨⟨v,rfl⟩,a7⟩;change Hh _ at a7;clear a6;go_wp2;go_roundw;exact⟨j+1,Oo,Gg,a7⟩;exact Im
 obtain rfl:j=n:=Oo;have i1:=aY j;have HF:=ay (V _ HT);clear M O V HT;go_wp2;go_ret;exact⟨_,rfl,.inr ⟨hz,_,rfl,HF⟩,HF.o.bw⟩
theorem qIG w q(M:IS w vr q)(O:q.length<=1000):
 aF 127 #[.pointer none,vr] w (.bool false) λw'=>w'=w:=by
 obtain⟨ar,V,rfl,K⟩:=M;rcases Nat.eq_zero_or_pos q.length with I|I
 .rw[I];clear K;go_enter func127,ntmps127;go_wp2;go_loop [0,9] (λu t=>u=.pointer none/\t=ai 0) (λ_ _=>0);exact⟨rfl,rfl⟩;obtain⟨rfl,rfl⟩:=hrel;go_wp2;go_ret;exact⟨rfl,rfl⟩
 rcases K with h1|⟨b,o,rfl,h⟩;omega;have c1:aC w b o (ai (q.getD 0 0)):=h 0 I;have i1:(0:Int)<(q.length:Int):=Oo;clear h;generalize q.getD 0 0=x,q.length=n at *;go_enter func127,ntmps127;go_wp2;go_loop [0,9] (λu t=>u=.pointer none/\t=ai 0) (λ_ _=>0);exact⟨rfl,rfl⟩;obtain⟨rfl,rfl⟩:=hrel;go_wp2;go_ret;exact⟨rfl,rfl⟩
def TC(W0 W:World)(keys:LL)(c:OA):Prop:=keys=[]/\c=none\/keys≠[]/\∃root,c=some (az root 0)/\TS W0 W keys keys.length root
theorem TC.has{keys c}(h:TC W0 w4 keys c)(K:Bl w4 W)(hl:∀r∈keys,r.length=L)(hn:keys.length<=100000)(M:L<=1000)(I:IS W vr q)(hq:q.length=L):
 aG 127 #[.pointer c,vr] W (.bool (decide (q∈keys))):=by
 rcases h with ⟨rfl,rfl⟩|⟨O,root,rfl,D,N,f,g0,g1,V,hT,hf,hk,-⟩;apply (qIG W q I Oo).mn;intro w' rfl;exact⟨Ss,eB⟩;rw[<-hf];exact qFV W D N f L q V (hT.below K) (λp hp=>O1 (hk p hp)) hl O I hq M
theorem TQ.base{v0 v1 v2 us vs ws rows}(h:TQ W B v0 v1 v2 us vs rows ws)(hB:B'<=B):TQ W B' v0 v1 v2 us vs rows ws:=
 ⟨qE h.o0 hB,h.rq.base hB,qE h.o2 hB,h.a02,h.a0,h.a2⟩
theorem qFJ(I vb:LI):∀p∈plc (λi=>decide (I.getD i 0∈vb)) I.length,0<=p/\p<(I.length:Int):=λp K=>by
 unfold plc at K;rw[cC]at K;have⟨j,M,e⟩:=K;rw[cK,cJ]at M;simp only[Int.ofNat_eq_natCast]at e;omega
def three(w:World)(a0 a1 a2 b0 b1 b2:Value):World:=((w.alloc (.cells #[a0,a1,a2] 58)).alloc (.cells #[b0,b1,b2] 58)).alloc (.cells #[sn,sn,sn] 58)
theorem qGh w a0 a1 a2 b0 I b2:Bl w (three w a0 a1 a2 b0 I b2)/\TX (three w a0 a1 a2 b0 I b2) w.1.size a0 a1 a2/\TX (three w a0 a1 a2 b0 I b2) (w.1.size+1) b0 I b2/\TX (three w a0 a1 a2 b0 I b2) (w.1.size+2) sn sn sn:=by
 have K:∀(W:World) (o:Obj),Bl W (W.alloc o):=λW o=>aK;refine⟨bt (bt (K w _) (K _ _)) (K _ _),((TX.made _ _ _ _).below (K _ _)).below (K _ _),?_,?_⟩;have:=(TX.made (aJ w #[a0,a1,a2] 58) b0 I b2).below (K _ (.cells #[sn,sn,sn] 58));rw[aM]at this;exact this;have:=TX.made ((aJ w #[a0,a1,a2] 58).alloc (.cells #[b0,I,b2] 58)) sn sn sn;rw[aM,aM]at this;exact this
def Z8(va vb:LI)(ra rb:LL)(i:Nat):Bool:=UZ va vb rb (ra.getD i [])
def ApW(u v:Value):Prop:=∀g,u.ownBlock=some g->v.ownBlock≠some g
theorem qG(h:w.ownsRow B e s v n xs):∃a cap,v=.slice a n cap:=by
 rcases h.2 with ⟨rfl,I⟩|⟨g,cap,cur,rfl,-⟩;exact⟨none,0,by rw[I]⟩;exact⟨_,cap,rfl⟩
structure TW(W:World)(B:Nat)(v0 v1 v2:Value)(us:LV)(vs:LI)(rows:LL)(ws:LI):Prop where
 o0:W.ownsRow B 3 1 v0 vs.length (vs.map ai)
 rq:RQ W B v1 us rows
 o2:W.ownsRow B 3 1 v2 ws.length (ws.map ai)
 a02:ApW v0 v2
 a0:∀i,i<rows.length->ApW (us.getD i undef) v0
 a2:∀i,i<rows.length->ApW (us.getD i undef) v2
theorem TW.below{v0 v1 v2 us vs ws rows}(h:TW W B v0 v1 v2 us vs rows ws)(hb:Bl W W'):TW W' B v0 v1 v2 us vs rows ws:=
 ⟨qB h.o0 hb,h.rq.below hb,qB h.o2 hb,h.a02,h.a0,h.a2⟩
theorem TW.base{v0 v1 v2 us vs ws rows}(h:TW W B v0 v1 v2 us vs rows ws)(hB:B'<=B):TW W B' v0 v1 v2 us vs rows ws:=
 ⟨qE h.o0 hB,h.rq.base hB,qE h.o2 hB,h.a02,h.a0,h.a2⟩
structure TbR where
 v0:Value
 v1:Value
 v2:Value
 us:LV
 vs:LI
 rows:LL
 ws:LI
def QP:TbR:=⟨undef,undef,undef,[],[],[],[]⟩
def tcs(t:TbR):LV:=[t.v0,t.v1,t.v2]
def bls(t:TbR):LV:=t.v0::t.v2::t.us
def TWr(W:World)(B:Nat)(t:TbR):Prop:=TW W B t.v0 t.v1 t.v2 t.us t.vs t.rows t.ws
theorem TWr.lt{t}(h:TWr W B t)(I:x∈bls t)(K:x.ownBlock=some g):B<=g/\g<W.1.size:=by
 rcases cH.1 I with rfl|I;exact h.o0.lt g K;rcases cH.1 I with rfl|I;exact h.o2.lt g K;obtain⟨i,hi,rfl⟩:=gO I
 have:=(h.rq.each i (by rw[<-h.rq.len];exact hi)).lt g (by rw[gD,gE hi];exact K);exact this
structure TBs(W:World)(B:Nat)(v:Value)(tl:List TbR):Prop where
 own:W.ownsRow B 58 3 v tl.length (tl.flatMap tcs)
 each:∀t∈tl,TWr W B t
 ap:tl.Pairwise λs t=>∀x∈bls s,∀y∈bls t,ApW x y
theorem TBs.below{tl}(h:TBs W B v tl)(hb:Bl W W'):TBs W' B v tl:=
 ⟨qB h.own hb,λt I=>TW.below (h.each t I) hb,h.ap⟩
theorem TBs.base{tl}(h:TBs W B v tl)(hB:B'<=B):TBs W B' v tl:=
 ⟨qE h.own hB,λt I=>TW.base (h.each t I) hB,h.ap⟩
theorem TW.grownT{t}(h:TWr W B t)(ho:W.ownsRow B' 58 3 v n xs)(O:(W.alloc o).grownBy w3 v.ownBlock):TWr w3 B t:=by
 have hint:∀{x:Value} {k B':Nat} {xs:LV},W.ownsRow B' 3 1 x k xs->w3.ownsRow B' 3 1 x k xs:=λK=>
  qD K λg I=>zD O (K.lt g I).2 (own_ne ho (qK K I) Dd)
 have M:∀{x:Value} {k B':Nat} {xs:LV},W.ownsRow B' 24 1 x k xs->w3.ownsRow B' 24 1 x k xs:=λK=>
  qD K λg I=>zD O (K.lt g I).2 (own_ne ho (qK K I) Dd)
 exact⟨hint h.o0,⟨M h.rq.own,h.rq.len,λi hi=>hint (h.rq.each i hi),h.rq.ap⟩,hint h.o2,h.a02,h.a0,h.a2⟩
theorem TBs.row{tl}(h:TBs W0 B v tl)(hB:B<=W0.1.size):∀W t o w3 v',Bl W0 W->TWr W W0.1.size t->(W.alloc o).grownBy w3 v.ownBlock->w3.ownsRow B 58 3 v' (tl.length+1) (tl.flatMap tcs++[t.v0,t.v1,t.v2])->TBs w3 B v' (tl++[t]):=by
 intro W t o w3 v' hb M O I;have ho:=qB h.own hb;refine⟨?_,λs hs=>?_,?_⟩;rw[lA,dM];exact I
 .rcases cF.1 hs with hs|hs;exact TW.grownT (TW.below (h.each s hs) hb) ho O;rw[cI.1 hs];exact TW.base (TW.grownT M ho O) hB
 refine List.pairwise_append.2 ⟨h.ap,List.pairwise_singleton _ _,λs hs t' K x hx y V g h1 h2=>?_⟩;rw[cI.1 K]at V;have h3:=((h.each s hs).lt hx h1).2;have h4:=(M.lt V h2).1;omega
theorem uT(w:World)x y z t:∀j u,[x,y,z][j]?=some u->(w.alloc (.cells #[x,y,z] t)).cell? (((az w.1.size 0):Addr).add j)=some u:=by
 intro j u I;have e:((az w.1.size 0):Addr).add j=(az w.1.size j):=by unfold Addr.add;by_cases K:j=0 <;> simp[K]
 rw[e,eH rfl];match j,I with
 |0,I=>simpa using I
 |1,I=>simpa using I
 |2,I=>simpa using I
 |j+3,I=>simp at I
theorem Tryz.infoTb:(Tryz.prog.info? 58).map (λi=>(i.zero,i.size,i.bytes))=some (some (.agg #[sn,sn,sn]),3,72):=Kl
def tvB(t:TbR):TbV:=⟨t.vs,t.rows,t.ws⟩
theorem TBs.its{tl}(h:TBs W B v tl):ITs W v (tl.map tvB):=by
 have⟨a,cap,e,K⟩:=qEC _ (λ_=>rfl) QP h.own;refine⟨a,cap,by rw[lM];exact e,?_⟩;rcases K with O|⟨g,V,-,K⟩;exact .inl (by rw[lM];exact O);refine .inr ⟨g,0,V,λj I=>?_⟩;rw[lM]at I;have M:TWr W B (tl.getD j QP):=h.each _ (by rw[gD,gE I];exact gM _);have eg:(tl.map tvB).getD j qA=tvB (tl.getD j QP):=by
  rw[gD,gD,bK,gE I];rfl
 rw[eg,cU];exact⟨_,_,_,K j 0 I Oo,K j 1 I Oo,K j 2 I Oo,qN M.o0,M.rq.rs.iss eB,qN M.o2⟩
def Fz(B:Nat)(P:WP)(w:World):Prop:=∀W',(∀k,B<=k->k<w.1.size->W'.1[k]?=w.1[k]?)->P W'
section
variable {B B' p:Nat} {P Q:WP} {w w':World}
theorem Fz.self(h:Fz B P w):P w:=h w λ_ _ _=>rfl
theorem Fz.below(h:Fz B P w)(hb:Bl w w'):Fz B P w':=λW' I=>h W' λk M K=>(I k M (bN K hb.size)).trans (hb.block k K)
theorem Fz.mono(h:Fz B P w)(hB:B'<=B):Fz B' P w:=λW' I=>h W' λk K M=>I k (bM hB K) M
theorem Fz.imp(h:Fz B P w)(f:∀W,P W->Q W):Fz B Q w:=λW' I=>f _ (h W' I)
theorem RQ.fz{us ls}(h:RQ w B v us ls):Fz B (λW=>RQ W B v us ls) w:=λ_ I=>
 ⟨qD h.own λg K=>I g (h.own.lt g K).1 (h.own.lt g K).2,h.len,λi hi=>qD (h.each i hi) λg K=>I g ((h.each i hi).lt g K).1 ((h.each i hi).lt g K).2,h.ap⟩
end
structure TbC where
 v0:Value
 v1:Value
 v2:Value
 t:TbV
def qFs:TbC:=⟨undef,undef,undef,qA⟩
def tcc(r:TbC):LV:=[r.v0,r.v1,r.v2]
def ITc(W:World)(r:TbC):Prop:=IT W r.v0 r.v1 r.v2 r.t.vs r.t.rows r.t.ws
end Go.Proofs.YtnpgdnaeghilhaaGreat
