import Derived.Test.YtfpjpngjikdaoaaGreatAg02
import Derived.Test.YtfpjpngjikdaoaaGreatAg03
set_option maxHeartbeats 40000000
set_option maxRecDepth 1000000
set_option linter.defProp false
open List Go.World
open List renaming length->E,getD->U,replicate->wJ
open Array renaming size->J
open Go.World renaming alloc->S,setCell->sW,cell?->eQ,ownsRow->oW
open Go.Value renaming slice->Z,bool->oB,agg->aQ,ownBlock->wN
open Go.Obj renaming cells->eZ
open Go.Ending renaming returned->rE
open Option renaming some->Q,none->wH
open Bool renaming false->nF
open Decidable renaming decide->oD
open Go renaming World->oX,Value->oV,below_drewN->rB,undef->tM
open Go.Calls renaming quiet_of->tO
namespace Go.Proofs.YtfpjpngjikdaoaaGreat
open Go.Proofs.Tryz Go.RowKit
variable {ls rows:LL}{us:LV}{cap n n0 b o B:Nat}{v v' u vr:oV}{W W0 wr W' w3 w:oX}{X:oV->Prop}{g0 g1:LI->oV}
def ISx(X:oV->Prop)(w:oX)(v:oV)(l:LI):Prop:=ISc w v l/\X v
structure RSx(X:oV->Prop)(W0 W:oX)(v:oV)(us:LV)(ls:LL):Prop where
 sl:∃a cap,v=Z a (E ls) cap/\E ls<=cap/\(E ls=0\/∃b o,a=Q (az b o)/\∀j,j<E ls->eQ W (az b (o+j))=Q (U us j tM))
 C:E us=E ls
 l:∀i,i<E ls->ISx X W0 (U us i tM) (U ls i [])
def RSx.zz(h:RSx X W0 W v us ls)(hb:Bl W W'):RSx X W0 W' v us ls:=by
 obtain⟨⟨a,cap,rfl,M,I⟩,O,V⟩:=h;refine⟨⟨a,cap,rfl,M,?_⟩,O,V⟩;rcases I with I|⟨b,o,rfl,I⟩;exact .inl I;exact .inr ⟨b,o,rfl,λj K=>(hb.cell (bL W _ (I j K))).trans (I j K)⟩
def RSx.issc(h:RSx X W0 W v us ls)(hb:Bl W0 W):ISSc W v ls:=by
 obtain⟨⟨a,cap,rfl,O,I⟩,V,M⟩:=h;refine⟨a,cap,rfl,?_⟩;rcases I with I|⟨b,o,rfl,I⟩;exact .inl I;exact .inr ⟨b,o,rfl,λj K=>⟨_,I j K,(M j K).1.zz hb⟩⟩
def RSx.take{a:OA}(h:RSx X W0 W (Z a n0 cap) us ls)(O:n<=E ls):RSx X W0 W (Z a n cap) (us.take n) (ls.take n):=by
 have⟨⟨V,K,e,hc,I⟩,h2,M⟩:=h;simp only[vI]at e;obtain⟨rfl,rfl,rfl⟩:=e;have hl:E (ls.take n)=n:=by rw[bZ];omega
 refine⟨⟨a,cap,by rw[hl],Oo,?_⟩,by rw[hl,bZ];omega,λi hi=>?_⟩
 .rcases I with I|⟨b,o,rfl,I⟩;exact .inl Oo;exact .inr ⟨b,o,rfl,λj hj=>by rw[getD_take Oo];exact I j Oo⟩
 rw[getD_take Oo,getD_take Oo];exact M i Oo
def RSx.drop(h:RSx X W0 W (sZ b o n0 cap) us ls)(V:n<=E ls):RSx X W0 W (sZ b (o+n) (n0-n) (cap-n)) (us.drop n) (ls.drop n):=by
 have⟨⟨a',K,e,hc,I⟩,h2,O⟩:=h;simp only[vI]at e;obtain⟨rfl,rfl,rfl⟩:=e;have hl:E (ls.drop n)=E ls-n:=dP ..;refine⟨⟨_,_,by rw[hl],Oo,?_⟩,by rw[hl,dP];omega,λi hi=>?_⟩
 .rcases I with I|⟨b',o',M,I⟩;exact .inl Oo;simp only[oI,aI,iB]at M;obtain⟨rfl,rfl⟩:=M;exact .inr ⟨b,o+n,rfl,λj hj=>by rw[jO,Nat.add_assoc];exact I _ Oo⟩
 rw[jO,jO];exact O _ Oo
structure MSx(X:oV->Prop)(W0 W wr:oX)(v:oV)(us:LV)(ls:LL):Prop where
 O:Bl W wr
 z:oW wr (J W.1) 24 1 v (E ls) us
 C:E us=E ls
 l:∀i,i<E ls->ISx X W0 (U us i tM) (U ls i [])
def MSx.zv X W0 W:MSx X W0 W (S W (eZ #[] 24)) (sZ (J W.1) 0 0 0) [] []:=
 ⟨aK,oM W _ 0 eA Dd rfl,rfl,λi hi=>by simp at hi⟩
def MSx.push{l o}(h:MSx X W0 W wr v us ls)(K:ISx X W0 u l)(I:oW w3 (J W.1) 24 1 v' (E ls+1) (us++[u]))(M:(S wr o).grownBy w3 v.ownBlock):MSx X W0 W w3 v' (us++[u]) (ls++[l]):=by
 refine⟨(h.O.alloc h.O.size o).grown M (by have:=h.O.size;simp;omega) (λk O=>(h.z.lt k O).1),by rw[lA];exact I,by simp[h.C],λi hi=>?_⟩;rw[lA,lS]at hi;by_cases e:i<E ls;rw[gD,aL (by rw[h.C];exact e),gD (l:=ls++[l]),aL e,<-gD,<-gD];exact h.l i e;have V:U (us++[u]) i tM=u:=by rw[gD,bQ (by rw[h.C];omega),show i-E us=0 by rw[h.C];omega];rfl
 have e2:U (ls++[l]) i []=l:=by rw[gD,bQ Oo,show i-E ls=0 by omega];rfl
 rw[V,e2];exact K
def MSx.rs(h:MSx X W0 W wr v us ls):RSx X W0 wr v us ls:=by
 refine⟨?_,h.C,h.l⟩;rcases h.z.2 with ⟨rfl,I⟩|⟨g,cap,cur,rfl,hb',M,I,K,-,O⟩;exact⟨wH,0,by rw[I],Oo,.inl I⟩;refine⟨_,cap,rfl,?_,.inr ⟨g,0,rfl,λj V=>?_⟩⟩;exact I;have hlen:=h.C;rw[cU,eI M,gD,gE Oo,dI,<-gE (by omega:j<E us),<-O,cL Oo,dY]
def MSx.drewN(h:MSx X W0 W wr v us ls)n:MSx X W0 W (wr.drewN n) v us ls:=⟨⟨h.O.os,h.O.tape,h.O.output,h.O.size,h.O.block⟩,h.z,h.C,h.l⟩
def ZQ:∀n W v us ls,E ls<=n->Bl W0 W->RSx X W0 W v us ls->E ls<=100000->(∀r∈ls,E r<=1099511627776)->
 Cl 46 #[v] W λe w'=>∃v' a5,e=rE v'/\RSx X W0 w' v' a5 (srt ls)/\qG7 W v v'/\Bl W w':=by
 intro n;induction n with
 |zero=>
  intro W v us ls hn hB h hl hM;have HR:=ay h;obtain⟨⟨a,cap,rfl,-⟩,-,-⟩:=h;have e0:E ls=0:=Oo;have hS:srt ls=ls:=jN Oo;rw[hS];rw[e0]at HR |-;go_enter func46,ntmps46;go_wp2;go_ret;exact⟨_,us,rfl,HR,.inl rfl,eB⟩
 |succ n ih=>
  intro W v us ls hn hB h hl hM;by_cases h2:E ls<2
  .have HR:=ay h;obtain⟨⟨a,cap,rfl,-⟩,-,-⟩:=h;have hS:=jN h2;rw[hS];have i1:(E ls:Int)<2:=Oo;go_enter func46,ntmps46;go_wp2;go_ret;exact⟨_,us,rfl,HR,.inl rfl,eB⟩
  rw[Ye h2];have HR:=ay h;obtain⟨⟨a,cap,rfl,d9,hc⟩,-,-⟩:=h;obtain⟨b,o,rfl,-⟩:∃b o,a=Q (az b o)/\∀j,j<E ls->aC W b (o+j) (U us j tM):=by
   rcases hc with h0|h0;omega;exact h0
  clear hc;have⟨N,hN⟩:=Ex (E ls);have KA:Hh (∀w1,Bl W w1->Cl 46 #[sZ b o (N / 2) cap] w1 λe w'=>∃v' a5,e=rE v'/\RSx X W0 w' v' a5 (srt (ls.take (N / 2)))/\Bl w1 w'):=λw1 hb=>(
   ih _ _ _ _ (by rw[bZ];omega) (bt hB hb) ((HR.o.zz hb).take Oo) (by rw[bZ];omega) (λr hr=>hM r (mem_of_mem_take hr))).mono λe w' ⟨v',a5,h1,h2,_,h3⟩=>⟨v',a5,h1,h2,h3⟩
  have KB:Hh (∀w1,Bl W w1->Cl 46 #[sZ b (o+N / 2) (N-N / 2) (cap-N / 2)] w1 λe w'=>∃v' a5,e=rE v'/\RSx X W0 w' v' a5 (srt (ls.drop (N / 2)))/\Bl w1 w'):=λw1 hb=>by
   have:=ih _ (sZ b (o+N / 2) (N-N / 2) (cap-N / 2)) (us.drop (N / 2)) (ls.drop (N / 2)) (by rw[dP];omega) (bt hB hb) (by rw[hN];exact(HR.o.zz hb).drop Oo) (by rw[dP];omega) (λr hr=>hM r (mem_of_mem_drop hr));exact this.mono λe w' ⟨v',a5,h1,h2,_,h3⟩=>⟨v',a5,h1,h2,h3⟩
  have e6:=ay λr hr=>hM r (mem_of_mem_take (((zQ _ (ls.take (N / 2)) eA).2 r).1 hr));have e7:=ay λr hr=>hM r (mem_of_mem_drop (((zQ _ (ls.drop (N / 2)) eA).2 r).1 hr));have h6:E (srt (ls.take (N / 2)))<=100000:=bM (yK _ _ eA) (by rw[bZ];omega);have h7:E (srt (ls.drop (N / 2)))<=100000:=bM (yK _ _ eA) (by rw[dP];omega);rw[<-hN]at d9 hl h2 |-;have q2:¬((N:Int)<2):=Oo;have q5:¬cap=N / 2:=Oo;have q6:N / 2<=cap:=Oo;have q7:N / 2<=N:=Oo;change Hh _ at hB;clear ih hn HR hM hN;generalize srt (ls.take (N / 2))=la,srt (ls.drop (N / 2))=lb at *;clear us;go_enter func46,ntmps46;go_wp2_with fail;apply (KA.o W eB).mono;rintro e w1 ⟨va,ua,rfl,e8,e9⟩;change Hh _ at e8 e9;clear KA;go_wp2_with fail;apply (KB.o _ e9.o).mono;rintro e w2 ⟨vb,ub,rfl,f7,d4⟩;have e1:=ay (e8.o.zz d4);have f8:=ay f7;have f9:=ay (bt hB (bt e9 d4));have g4:=ay (bt e9 d4);obtain⟨⟨aa,ca,rfl,-,-⟩,-,-⟩:=e8.o;obtain⟨⟨ab,cb,rfl,-,-⟩,-,-⟩:=f7;clear d4 KB e8 e9 hB q2 q5 q6 q7 d9 h2;have g6:Hh (∀W,Bl w2 W->∀i,i<E la->∃b o u,aa=Q (az b o)/\aC W b (o+i) u/\ISx X W0 u (U la i [])):=λW hW i hi=>by
   obtain⟨⟨a',c',e,-,h1⟩,-,h3⟩:=e1.o.zz hW;simp only[vI]at e;obtain⟨rfl,-,-⟩:=e;rcases h1 with h1|⟨b',o',rfl,h1⟩;omega;exact⟨b',o',_,rfl,h1 i hi,h3 i hi⟩
  have e3:Hh (∀W,Bl w2 W->∀i,i<E lb->∃b o u,ab=Q (az b o)/\aC W b (o+i) u/\ISx X W0 u (U lb i [])):=λW hW i hi=>by
   obtain⟨⟨a',c',e,-,h1⟩,-,h3⟩:=f8.o.zz hW;simp only[vI]at e;obtain⟨rfl,-,-⟩:=e;rcases h1 with h1|⟨b',o',rfl,h1⟩;omega;exact⟨b',o',_,rfl,h1 i hi,h3 i hi⟩
  have KC:Hh (∀W i j u v,Bl w2 W->i<E la->j<E lb->ISx X W0 u (U la i [])->ISx X W0 v (U lb j [])->Cl 62 #[u,v] W λe w'=>e=rE (ai (cmpL (U la i []) (U lb j [])))/\∃q,w'=W.drewN q):=λW i j u v hW hi hj hu hv=>
   zN W u v _ (hu.1.1.zz (bt f9 hW)) (hv.1.1.zz (bt f9 hW)) (e6 _ (by rw[gD,gE hi];exact gM _)) (e7 _ (by rw[gD,gE hj];exact gM _))
  have HM:Hh (∀i j,i<E la->j<E lb->la.drop i=U la i []::la.drop (i+1)/\lb.drop j=U lb j []::lb.drop (j+1)):=λi j hi hj=>⟨drop_cons hi,drop_cons hj⟩;have a9:Hh (∀i,i<E la->la.drop i=U la i []::la.drop (i+1)):=λi hi=>drop_cons hi;have b7:Hh (∀i,i<E lb->lb.drop i=U lb i []::lb.drop (i+1)):=λi hi=>drop_cons hi;have d5:Hh (∀i,¬i<E la->la.drop i=[]):=λi hi=>qBe hi;have d6:Hh (∀i,¬i<E lb->lb.drop i=[]):=λi hi=>qBe hi;have h8:Hh (∀lo i j,lo++mrg (la.drop i) (lb.drop j)=mrg la lb->E lo<=200000):=λlo i j h=>by
   have:=vN _ la lb eA;rw[<-h,lA]at this;omega
  clear e1 f8 e6 e7 HM;have⟨na,g7⟩:=Ex (E la);have⟨nb,g8⟩:=Ex (E lb);rw[<-g7]at g6 KC a9 d5 h6 |-;rw[<-g8]at e3 KC b7 d6 h7 |-;clear g7 g8;go_wp2;go_loopw [5,6,7] (λt5 t6 t7 wr=>∃(i j:Nat) (vo:oV),i<=na/\j<=nb/\t6=ai i/\t7=ai j/\vo=t5/\Hh (∃uo lo,lo++mrg (la.drop i) (lb.drop j)=mrg la lb/\MSx X W0 w2 wr vo uo lo)) (λ_ t6 t7 _=>(na-(intOf t6).toNat)+(nb-(intOf t7).toNat));exact⟨0,0,_,eC,eC,rfl,rfl,rfl,ay ⟨[],[],Ss,MSx.zv X W0 w2⟩⟩;obtain⟨i,j,vo,hi,j6,rfl,rfl,rfl,HT⟩:=hrel;have⟨uo,lo,e4,g9⟩:=HT.o;change Hh _ at e4 g9;have hlen:=h8 _ i j e4;clear HT;by_cases a4:i<na
  .have i1:=aV a4;have i3:¬((i:Int)=na):=Oo;have i7:((i:Int) == (na:Int))=false:=Sy;have i8:¬(i=na):=Oo;have⟨b1,o1,u1,ea,c1,h4⟩:=g6 _ g9.o.O i a4;subst ea;have d7:=ay h4;obtain⟨⟨⟨a1,k1,rfl,-⟩,-⟩,-⟩:=h4;by_cases a3:j<nb
   .have i2:=aV a3;have i4:¬((j:Int)=nb):=Oo;have i5:((j:Int) == (nb:Int))=false:=Sy;have i6:¬(j=nb):=Oo;have⟨b2,o2,u2,ea,c2,c8⟩:=e3 _ g9.o.O j a3;subst ea;have d8:=ay c8;obtain⟨⟨⟨a2,k2,rfl,-⟩,-⟩,-⟩:=c8;have c9:=ay λW hW=>KC W i j _ _ hW a4 a3 d7 d8;have h9:Hh (cmpL (U la i []) (U lb j [])<0->lo++[U la i []]++mrg (la.drop (i+1)) (lb.drop j)=mrg la lb):=λhc=>by
     have h:=e4.o;rw[a9.o i a4,b7.o j a3,Ve hc,<-b7.o j a3]at h;rw[dN];exact h
    have i0:Hh (0<cmpL (U la i []) (U lb j [])->lo++[U lb j []]++mrg (la.drop i) (lb.drop (j+1))=mrg la lb):=λhc=>by
     have h:=e4.o;rw[a9.o i a4,b7.o j a3,Vf hc,<-a9.o i a4]at h;rw[dN];exact h
    have j0:Hh (¬cmpL (U la i []) (U lb j [])<0->¬0<cmpL (U la i []) (U lb j [])->lo++[U la i []]++mrg (la.drop (i+1)) (lb.drop (j+1))=mrg la lb):=λh1 h2=>by
     have h:=e4.o;rw[a9.o i a4,b7.o j a3,Vg h1 h2]at h;rw[dN];exact h
    generalize cmpL (U la i []) (U lb j [])=cc,E (U la i [])=m1,E (U lb j [])=m2 at *;clear KC e4;have e5:=ay λq=>(g9.o.drewN q).O;have h5:=ay λn q=>((g9.o.drewN n).drewN q).O;by_cases h1:cc<0
    .have j1:oD (cc<0):=by simp[h1]
     go_upto_region 12 with fail;go_quiet (first|go_at_call 62;exact tO (c9 _ (e5 _)))
     have I:=ay (g9.o.drewN nq);go_wp2_with (at_builtin;refine apL rfl rfl underlying23 Tryz.infoIS (I.o.z.alloc _) rfl rfl (qH _ _ _) (by have:=I.o.O.size;simp at this |-;omega) ?_;intro g3 cp3 w3 M K a7 a8);go_roundw;exact⟨i+1,j,_,Oo,Oo,Gg,rfl,rfl,ay ⟨_,_,h9 h1,I.o.push d7 M K⟩⟩;exact Im
    have j1:oD (cc<0)=false:=Sy;by_cases h2:0<cc
    .have j2:oD (0<cc):=by simp[h2]
     go_upto_region 12 with fail;go_quiet (first|go_at_call 62;exact tO (c9 _ (e5 _)))
     go_upto_region 15 with fail;have V:=ay (g9.o.drewN nq);have d0:=ay λq=>h5 nq q;have d1:aC (wr.drewN nq) b1 (o1+i) (Z a1 m1 k1):=c1;have d2:aC (wr.drewN nq) b2 (o2+j) (Z a2 m2 k2):=c2;generalize wr.drewN nq=W5 at V d0 d1 d2 |-;go_quiet (first|go_at_call 62;exact tO (c9 _ (d0 _)))
     have I:=ay (V.o.drewN nq);go_wp2_with (at_builtin;refine apL rfl rfl underlying23 Tryz.infoIS (I.o.z.alloc _) rfl rfl (qH _ _ _) (by have:=I.o.O.size;simp at this |-;omega) ?_;intro g3 cp3 w3 M K a7 a8);go_roundw;exact⟨i,j+1,_,Oo,Oo,rfl,Gg,rfl,ay ⟨_,_,i0 h2,I.o.push d8 M K⟩⟩;exact Im
    have j2:oD (0<cc)=false:=Sy;go_upto_region 12 with fail;go_quiet (first|go_at_call 62;exact tO (c9 _ (e5 _)))
    go_upto_region 15 with fail;have V:=ay (g9.o.drewN nq);have d0:=ay λq=>h5 nq q;have d1:aC (wr.drewN nq) b1 (o1+i) (Z a1 m1 k1):=c1;have d2:aC (wr.drewN nq) b2 (o2+j) (Z a2 m2 k2):=c2;generalize wr.drewN nq=W5 at V d0 d1 d2 |-;go_quiet (first|go_at_call 62;exact tO (c9 _ (d0 _)))
    have I:=ay (V.o.drewN nq);go_wp2_with (at_builtin;refine apL rfl rfl underlying23 Tryz.infoIS (I.o.z.alloc _) rfl rfl (qH _ _ _) (by have:=I.o.O.size;simp at this |-;omega) ?_;intro g3 cp3 w3 M K a7 a8);go_roundw;exact⟨i+1,j+1,_,Oo,Oo,Gg,Gg,rfl,ay ⟨_,_,j0 h1 h2,I.o.push d7 M K⟩⟩;exact Im
   obtain rfl:j=nb:=Oo;have HN:Hh (lo++[U la i []]++mrg (la.drop (i+1)) (lb.drop j)=mrg la lb):=(by
    have h:=e4.o;rw[d6.o j a3,yW,a9.o i a4]at h;rw[d6.o j a3,yW,dN];exact h)
   generalize E (U la i [])=m1 at *;go_upto_region 12 with fail;go_quiet (fail)
   have I:=ay (g9.o.drewN nq);go_wp2_with (at_builtin;refine apL rfl rfl underlying23 Tryz.infoIS (I.o.z.alloc _) rfl rfl (qH _ _ _) (by have:=I.o.O.size;simp at this |-;omega) ?_;intro g3 cp3 w3 M K a7 a8);go_roundw;exact⟨i+1,j,_,Oo,Oo,Gg,rfl,rfl,ay ⟨_,_,HN,I.o.push d7 M K⟩⟩;exact Im
  obtain rfl:i=na:=Oo;have i1:=aY i;by_cases a3:j<nb
  .have i2:=aV a3;have i4:¬((j:Int)=nb):=Oo;have i5:((j:Int) == (nb:Int))=false:=Sy;have i6:¬(j=nb):=Oo;have⟨b2,o2,u2,ea,c2,c8⟩:=e3 _ g9.o.O j a3;subst ea;have d8:=ay c8;obtain⟨⟨⟨a2,k2,rfl,-⟩,-⟩,-⟩:=c8;have HN:Hh (lo++[U lb j []]++mrg (la.drop i) (lb.drop (j+1))=mrg la lb):=(by
    have h:=e4.o;rw[d5.o i a4,yJ,b7.o j a3]at h;rw[d5.o i a4,yJ,dN];exact h)
   have i9:oD ((i:Int)<i)=false:=Ss;generalize E (U lb j [])=m2 at *;go_upto_region 12 with fail;go_quiet (fail)
   go_upto_region 15 with fail;have V:=ay (g9.o.drewN nq);have d2:aC (wr.drewN nq) b2 (o2+j) (Z a2 m2 k2):=c2;generalize wr.drewN nq=W5 at V d2 |-;go_quiet (fail)
   have I:=ay (V.o.drewN nq);go_wp2_with (at_builtin;refine apL rfl rfl underlying23 Tryz.infoIS (I.o.z.alloc _) rfl rfl (qH _ _ _) (by have:=I.o.O.size;simp at this |-;omega) ?_;intro g3 cp3 w3 M K a7 a8);go_roundw;exact⟨i,j+1,_,Oo,Oo,rfl,Gg,rfl,ay ⟨_,_,HN,I.o.push d8 M K⟩⟩;exact Im
  obtain rfl:j=nb:=Oo;have i2:=aY j;have HN:=ay (by
   have h:=e4.o;rw[d5.o i a4,d6.o j a3,yJ,dU]at h;exact h)
  have j3:=ay g9.o.rs;have j4:=ay (bt g4 g9.o.O);have j5:=ay λg hg=>bM g4.o.size (g9.o.z.lt g hg).1;obtain⟨⟨ao,co,rfl,-⟩,-,-⟩:=g9.o.rs;clear g9 e4;go_wp2;go_ret;refine⟨_,rfl,⟨uo,?_⟩,.inr j5.o,j4.o⟩;rw[<-HN.o];exact j3
open Meet
def qCT w{tb}fb gb cb{l}(k:Int->Nat)x(hv:eQ w (az tb 0)=Q (sZ fb 0 (E l) cap))(hb:eQ w (az tb 1)=Q (sZ gb 0 (E l) cb))
 (ho:∀j,j<E l->eQ w (az fb j)=Q (ai (U l j 0))) (hp:∀j,j<E l->eQ w (az gb j)=Q (.pointer (Q (az (k (U l j 0)) 0))))
 (h0:0<E l) (hl:E l<=1000000) (a7:E l<=cap) (ha:Asc l):
 aG 164 #[pZ tb 0,ai x] w (.pointer (if x∈l then Q (az (k x) 0) else wH)):=by
 obtain⟨W1,I⟩:=Ex (S w (eZ #[pZ tb 0,ai 0] 270));have a4:Bl w W1:=by rw[I];exact(bJ _ _).alloc (nR _) _
 have hc:∀{a:Addr} {v:oV},w.cell? a=Q v->W1.cell? a=Q v:=λ{a v} h=>(a4.cell (bL w _ h)).trans h;have KS:=ay (Xz _ 0 l 0 x ⟨by rw[I,eH rfl];rfl,by rw[I,eH rfl];rfl,by rw[I];unfold World.frozen?;rw[dZ];simp,hc hv,hc hb,λj hj=>hc (ho j hj)⟩ Oo a7 h0 ha);rw[drop_zero,cU,cU]at KS;obtain⟨q,hq⟩:=Ex (bsQ l x);have hs1:=a4.size;have a8:=(ZF (jM ha) x).1;have H2:Hh (∀d,Cq (sW (W1.drewN d) (az (J w.1) 1) (ai q)) (J w.1) 0 tb fb cap (sZ gb 0 (E l) cb) l q/\Bl w (sW (W1.drewN d) (az (J w.1) 1) (ai q))/\∀j,j<E l->eQ (sW (W1.drewN d) (az (J w.1) 1) (ai q)) (az gb j)=Q (.pointer (Q (az (k (U l j 0)) 0)))):=ay λd=>by
  have a9:Bl w (sW (W1.drewN d) (az (J w.1) 1) (ai q)):=(rB a4 d).setCell eA _;have a5:∀{a:Addr} {v:oV},w.cell? a=Q v->(sW (W1.drewN d) (az (J w.1) 1) (ai q)).cell? a=Q v:=λ{a v} h=>(a9.cell (bL w _ h)).trans h;have hh:(sW (W1.drewN d) (az (J w.1) 1) (ai q)).1[J w.1]?=Q (eZ #[pZ tb 0,ai q] 270 (0,0)):=by
   rw[bI (W1.drewN d) (J w.1) 1 #[pZ tb 0,ai 0] 270 _ (by rw[I];exact eO)];rfl
  refine⟨⟨?_,?_,?_,a5 hv,a5 hb,λj hj=>a5 (ho j hj)⟩,a9,λj hj=>a5 (hp j hj)⟩;rw[eI hh];rfl;rw[eI hh];rfl;unfold World.frozen?;rw[hh];simp
 clear hc a4 hs1 hv hb ho hp;rw[<-hq]at KS a8;have KE:Hh (∀W,Cq W (J w.1) 0 tb fb cap (sZ gb 0 (E l) cb) l q->Cl 194 #[pZ (J w.1) 0] W λe w'=>e=rE (oB (oD (q=E l)))/\∃d,w'=W.drewN d):=ay λW hW=>XG W hW;by_cases a3:q<E l
 .have KV:Hh (∀W,Cq W (J w.1) 0 tb fb cap (sZ gb 0 (E l) cb) l q->Cl 195 #[pZ (J w.1) 0] W λe w'=>e=rE (ai (U l q 0))/\∃d,w'=W.drewN d):=ay λW hW=>XH W hW a3;have KB:Hh (∀W,Cq W (J w.1) 0 tb fb cap (sZ gb 0 (E l) cb) l q->aC W gb q (.pointer (Q (az (k (U l q 0)) 0)))->Cl 199 #[pZ (J w.1) 0] W λe w'=>e=rE (.pointer (Q (az (k (U l q 0)) 0)))/\∃d,w'=W.drewN d):=ay λW hW hy=>XI W hW a3 hy;rw[fC Oo]at KE;have HX:Hh ((if x∈l then Q ((az (k x) 0):Addr) else wH)=if U l q 0=x then Q (az (k x) 0) else wH):=ay (by
   by_cases hx:x∈l;have:=(XJ ha hx).2;rw[<-hq]at this;rw[fE hx,fE this];have:=qDC hx (by rw[<-hq];exact a3);rw[<-hq]at this;rw[fF hx,fF this])
  rw[HX.o];have HP:=ay λd=>(H2 d).2.2 q a3;clear HX ha hq a8 h0 hl a7 a3;generalize U l q 0=y at *;by_cases e:y=x
  .subst e;rw[fE rfl];go_enter func164,ntmps164;go_upto_region 2 with fail;rw[<-I];clear I;go_wp2_with fail;apply KS.o.mono;rintro e w2 ⟨⟨v,rfl⟩,d,M⟩;obtain⟨K,O,-⟩:=H2 d;have hP:=HP d;rw[<-M]at K O hP;have V:=ay (KE _ K);clear H2 HP M KS KE;go_wp2_with fail;apply V.o.mn;rintro w3 ⟨d3,rfl⟩;have a6:=ay (KV _ (K.drewN d3));clear V KV;go_wp2_with fail;apply a6.o.mn;rintro w4 ⟨d4,rfl⟩;have b1:=ay (KB _ (K.drewN (d3+d4)) hP);clear a6 KB;go_wp2_with fail;apply b1.o.mn;rintro w5 ⟨d5,rfl⟩;go_wp2;go_ret;exact⟨rfl,rB O _⟩
  rw[fF e];go_enter func164,ntmps164;go_upto_region 2 with fail;rw[<-I];clear I;go_wp2_with fail;apply KS.o.mono;rintro e w2 ⟨⟨v,rfl⟩,d,M⟩;obtain⟨K,O,-⟩:=H2 d;rw[<-M]at K O;have V:=ay (KE _ K);clear H2 HP M KS KE;go_wp2_with fail;apply V.o.mn;rintro w3 ⟨d3,rfl⟩;have a6:=ay (KV _ (K.drewN d3));clear V KV;go_wp2_with fail;apply a6.o.mn;rintro w4 ⟨d4,rfl⟩;go_wp2;go_ret;exact⟨rfl,rB O _⟩
 have hx:x∉l:=λhx=>by have:=(XJ ha hx).1;omega
 rw[fF hx];rw[fD Oo]at KE;clear ha hq h0 hl a7 hx;go_enter func164,ntmps164;go_upto_region 2 with fail;rw[<-I];clear I;go_wp2_with fail;apply KS.o.mono;rintro e w2 ⟨⟨v,rfl⟩,d,M⟩;obtain⟨K,O,-⟩:=H2 d;rw[<-M]at K O;have V:=ay (KE _ K);clear H2 M KS KE;go_wp2_with fail;apply V.o.mn;rintro w3 ⟨d3,rfl⟩;go_wp2;go_ret;exact⟨rfl,rB O _⟩
def qED{D N f}(hM:TM rows D N)(K:TR w B D N N f g0 g1)(hK:∀p,D p->E (N p)<=1000000){p}(I:D p)(O:0<E (N p))x:
 aG 164 #[pZ (f p) 0,ai x] w (.pointer (if x∈N p then Q (az (f (p++[x])) 0) else wH)):=by
 obtain⟨ga,ca,V,-⟩:=xg (K.o0 p I) O;obtain⟨gb,cb,eb,-⟩:=xg (K.o1 p I) O;have a3:E (N p)<=ca:=by
  rcases (K.o0 p I).2 with ⟨-,h2⟩|⟨g,cap,cur,e,-,-,hn,-⟩;omega;rw[V]at e;simp only[vI]at e;omega
 refine qCT w ga gb cb (λy=>f (p++[y])) x (by rw[K.c0 I,V]) (by rw[K.c1 I,eb]) (λj M=>?_) (λj M=>?_) O (hK p I) a3 (jP (hM.asc p I));have⟨g,c,e,h1⟩:=xg (K.o0 p I) M;rw[V]at e;simp only[vI,oI,aI]at e;rw[e.1.1,h1,bK,gE M,gD,gE M];rfl;have⟨g,c,e,h1⟩:=xg (K.o1 p I) M;rw[eb]at e;simp only[vI,oI,aI]at e;rw[e.1.1,h1,bK,gE M,gD,gE M];rfl
def Nd(D:LI->Prop)(f:LI->Nat)(p:LI)(c:OA):Prop:=D p/\c=Q (az (f p) 0)\/¬D p/\c=wH
def qFV w D N f L q(K:TM rows D N)(hT:TR w B D N N f g0 g1)(hK:∀p,D p->E (N p)<=1000000)
 (hl:∀r∈rows,E r=L) (hn:rows≠[]) (hr:IS w vr q) (hq:E q=L) (hL:L<=1000):
 aG 130 #[pZ (f []) 0,vr] w (oB (oD (q∈rows))):=by
 obtain⟨ar,cr,rfl,hc⟩:=hr;have HC:Hh (∀W,Bl w W->∀j,j<E q->∃(b o:Nat),ar=Q (az b o)/\aC W b (o+j) (ai (U q j 0))):=λW hW j O=>by
  rcases hc with h0|⟨b,o,rfl,h⟩;omega;exact⟨b,o,rfl,(hW.cell (bL w _ (h j O))).trans (h j O)⟩
 have KU:Hh (∀W j,Bl w W->j<E q->D (q.take j)->Cl 164 #[.pointer (Q (az (f (q.take j)) 0)),ai (U q j 0)] W λe w'=>∃c,e=rE (.pointer c)/\Nd D f (q.take (j+1)) c/\Bl W w'):=λW j hW O hd=>by
  apply (qED K (hT.zz hW) hK hd (K.more hl hn (by rw[bZ];omega) hd) (U q j 0)).mn;intro w' hb;refine⟨_,rfl,?_,hb⟩;unfold Nd;rw[qy O,<-K.mem _ hd];by_cases hx:U q j 0∈N (q.take j);exact .inl ⟨hx,by rw[fE hx]⟩;exact .inr ⟨hx,by rw[fF hx]⟩
 have HN:Hh (∀j,¬D (q.take j)->oD (q∈rows)=nF):=λj O=>fC λhm=>O (K.pre ((K.M hl hn hq).2 hm) (take_prefix _ _));have HE:Hh (∀c,Nd D f (q.take (E q)) c->c.isSome=oD (q∈rows)):=λc hc=>by
  rw[tL]at hc;rcases hc with ⟨h1,rfl⟩|⟨h1,rfl⟩;rw[fD ((K.M hl hn hq).1 h1)];rfl;rw[fC (λhm=>h1 ((K.M hl hn hq).2 hm))];rfl
 have HS:Hh (Nd D f (q.take 0) (Q (az (f []) 0))):=.inl ⟨K.root,rfl⟩;generalize oD (q∈rows)=ans at *;have a8:E q<=1000:=Oo;clear K hT hK hl hn hc hq hL;have⟨n,a3⟩:=Ex (E q);rw[<-a3]at HC KU HE a8 |-;clear a3;generalize f []=fr at *;go_enter func130,ntmps130;go_wp2;go_loopw [0,9] (λu t wr=>∃(j:Nat) (c:OA),j<=n/\t=ai j/\u=.pointer c/\Hh (Nd D f (q.take j) c/\Bl w wr)) (λ_ t _=>n-(intOf t).toNat);exact⟨0,_,eC,rfl,rfl,ay ⟨HS,eB⟩⟩;clear HS;obtain⟨j,c,O,rfl,rfl,M⟩:=hrel;by_cases a4:j<n
 .have i1:=aV a4;have⟨b,o,ea,e1⟩:=HC _ M.2 j a4;subst ea;rcases M.o.1 with ⟨hd,V⟩|⟨hd,V⟩
  .subst V;have a5:=ay (KU _ j M.2 a4 hd);have HB:=ay M.2;clear M KU HC hd HN HE;generalize U q j 0=x,f (q.take j)=fj at *;go_wp2_with fail;apply a5.o.mono;rintro e w2 ⟨c2,rfl,a6,a7⟩;have a9:=ay (And.intro a6 (bt HB a7));clear a6 a7 a5;go_wp2;go_roundw;exact⟨j+1,_,Oo,Gg,rfl,a9⟩;exact Im
  subst V;have I:=HN j hd;subst I;clear KU HC hd HN HE;generalize U q j 0=x at *;go_wp2;go_ret;exact⟨rfl,M.2⟩
 obtain rfl:j=n:=Oo;have i1:=aY j;have I:=HE c M.1;subst I;have HB:=ay M.2;clear M HE HN KU HC;cases c with
 |none=>
  go_wp2;go_ret;exact⟨rfl,HB⟩
 |some a=>
  go_wp2;go_ret;exact⟨rfl,HB⟩
end Go.Proofs.YtfpjpngjikdaoaaGreat
namespace Go.Proofs.YtfpjpngjikdaoaaGreat
open Go.Proofs.Tryz Go.RowKit
variable {l r q:LI}{D:LI->Prop}{rs:LL}{xs:LV}{B B' K i j n node p root s c m k b L g:Nat}{o:Obj}{e:TypeId}{v vr O y u v' x:oV}{W W' W0 w w3 I w4:oX}{N:LI->LI}{f:LI->Nat}{g0 g1:LI->oV}
def UX{K}(h:IS w (Z (Q K) n c) l)(M:m<=E l):IS w (Z (Q K) m c) (l.take m):=by
 have⟨a,c',e,I⟩:=h;simp only[vI]at e;obtain⟨rfl,-,rfl⟩:=e;have hl:E (l.take m)=m:=by rw[bZ];omega
 refine⟨_,c,by rw[hl],?_⟩;rcases I with I|⟨b,o,e,I⟩;exact .inl Oo;exact .inr ⟨b,o,e,λj O=>by rw[getD_take Oo];exact I j Oo⟩
def uR w vq{rows}q(h:ISSc w vr rows)(hq:IS w vq q)(hS:SL rows)(hn:E rows<=1099511627776)(hl:∀r∈rows,E q<=E r/\E r<=1099511627776):
 Cl 47 #[vr,vq] w λe w'=>∃k:Nat,e=rE (ai k)/\Sk rows q k/\∃d,w'=w.drewN d:=by
 obtain⟨ar,cr,rfl,hc⟩:=h;have HC:Hh (∀j,j<E rows->∃(b o:Nat) (O:OA) (lr cu:Nat),ar=Q (az b o)/\aC w b (o+j) (Z O lr cu)/\E q<=lr/\lr<=cu/\(O=wH->lr=0)/\∀d ad,O=Q ad->Cl 62 #[Z (Q ad) (E q) cu,vq] (w.drewN d) λe w'=>e=rE (ai (cmpL ((U rows j []).take (E q)) q))/\∃q',w'=(w.drewN d).drewN q'):=λj hj=>by
  rcases hc with h0|⟨b,o,rfl,h⟩;omega;obtain⟨u,V,hI,a',n',c',e,a5⟩:=h j hj;have hm:=hl _ (by rw[gD,gE hj];exact gM _:U rows j []∈rows);have a9:=hI;obtain⟨O,cu,eu,M⟩:=hI;subst eu;simp only[vI]at e;obtain⟨-,rfl,rfl⟩:=e;refine⟨b,o,O,_,cu,rfl,V,hm.1,a5,λe=>?_,λd ad e=>?_⟩
  .rcases M with M|⟨b2,o2,e2,-⟩;exact M;rw[e]at e2;cases e2
  subst e;have h3:=UX a9 hm.1;exact zN _ _ _ q (h3.zz (rB eB d)) (hq.zz (rB eB d)) (by rw[bZ];omega) Oo
 have HD:Hh (∀i j,i<=j->j<E rows->cmpL ((U rows j []).take (E q)) q<0->cmpL ((U rows i []).take (E q)) q<0):=λi j b1 hj hc=>qC5 hS b1 hj hc;have HF:Hh (∀k,k<=E rows->(∀t,t<k->cmpL ((U rows t []).take (E q)) q<0)->(∀t,k<=t->t<E rows->¬cmpL ((U rows t []).take (E q)) q<0)->Sk rows q k):=λk V M h3=>⟨V,M,h3⟩;have KN:Hh (E q=0->∀d cu j,Cl 62 #[Z wH 0 cu,vq] (w.drewN d) λe w'=>e=rE (ai (cmpL ((U rows j []).take (E q)) q))/\∃q',w'=(w.drewN d).drewN q'):=λh0 d cu j=>by
  rw[h0,take_zero];exact zN _ _ _ q ⟨wH,cu,rfl,.inl rfl⟩ (hq.zz (rB eB d)) Ss Oo
 clear hc hS hl;obtain⟨aq,cq,rfl,-⟩:=hq;generalize E rows=n,hm:E q=m at *;change Hh _ at hm;obtain⟨C,hC⟩:=Ex (λj=>cmpL _ q);have a6:Hh (∀j,cmpL ((U rows j []).take m) q=C j):=λj=>by rw[hC]
 simp only[a6.o]at HC HD HF KN;clear hC a6;go_enter func47,ntmps47;go_wp2;go_loopg [5,6] n (λg s5 s6 wr=>∃lo hi d:Nat,s5=ai lo/\s6=ai hi/\lo<=hi/\hi<=n/\hi-lo<=g/\wr=w.drewN d/\Hh ((∀t,t<lo->C t<0)/\(∀t,hi<=t->t<n->¬C t<0)))
 case atStart=>exact⟨0,n,0,rfl,rfl,eC,eA,Oo,rfl,ay ⟨λt ht=>absurd ht (Nat.not_lt_zero _),λt V M=>Oo⟩⟩
 case round=>
  obtain⟨lo,hi,d,rfl,rfl,b9,a7,hg,rfl,I⟩:=hrel;by_cases c7:lo<hi
  .have⟨b,o,O,lr,cu,ea,c1,c8,c9,a8,K⟩:=HC ((lo+hi) / 2) Oo;subst ea;have d0:m<=cu:=Oo;have KC:Hh (∀d,Cl 62 #[Z O m cu,Z aq m cq] (w.drewN d) λe w'=>e=rE (ai (C ((lo+hi) / 2)))/\∃q',w'=(w.drewN d).drewN q'):=λd=>by
    cases O with
    |none=>
     have h0:m=0:=O1 (a8 rfl)
     have:=KN h0 d cu ((lo+hi) / 2);rw[h0]at this |-;exact this
    |some ad=>exact K d _ rfl
   have a3:Hh (C ((lo+hi) / 2)<0->∀t,t<(lo+hi) / 2+1->C t<0):=λh t ht=>HD t _ Oo Oo h;have HDn:Hh (¬C ((lo+hi) / 2)<0->∀t,(lo+hi) / 2<=t->t<n->¬C t<0):=λh t V M h3=>h (HD _ t V M h3);clear K a8 HC KN HD HF;generalize C ((lo+hi) / 2)=y at *;by_cases hy:y<0
   .have a4:Hh ((∀t,t<(lo+hi) / 2+1->C t<0)/\(∀t,hi<=t->t<n->¬C t<0)):=⟨a3 hy,I.2⟩;have b7:=fD hy;clear I a3 HDn;go_wp2_with fail;apply (KC.o _).mn;rintro w2 ⟨d2,rfl⟩;go_wp2_with fail;go_roundg (hi-((lo+hi) / 2+1))
    case measure=>omega
    case rel=>exact⟨(lo+hi) / 2+1,hi,_,by rw[show((lo:Int)+(hi:Int)) / 2+1=(((lo+hi) / 2+1:Nat):Int)by omega],rfl,Oo,a7,eA,rfl,a4⟩
   have a4:Hh ((∀t,t<lo->C t<0)/\(∀t,(lo+hi) / 2<=t->t<n->¬C t<0)):=⟨I.1,HDn hy⟩;have b7:=fC hy;clear I a3 HDn;go_wp2_with fail;apply (KC.o _).mn;rintro w2 ⟨d2,rfl⟩;go_wp2_with fail;go_roundg ((lo+hi) / 2-lo)
   case measure=>omega
   case rel=>exact⟨lo,(lo+hi) / 2,_,rfl,by rw[show((lo:Int)+(hi:Int)) / 2=(((lo+hi) / 2:Nat):Int)by omega],Oo,Oo,eA,rfl,a4⟩
  obtain rfl:hi=lo:=Oo;have HE:=ay (HF _ a7 I.1 (λt V M=>O1 (I.2 t V M)));clear HC HD HF KN I;go_wp2;go_ret;exact⟨_,rfl,HE,_,rfl⟩
def UY w rows(h:ISSc w vr rows)(hq:IS w O q)(hS:SL rows)(hn:E rows<=1099511627776)(hl:∀r∈rows,E q<=E r/\E r<=1099511627776):
 aF 105 #[vr,O] w (oB (vf rows q)) λw'=>∃d,w'=w.drewN d:=by
 have KS:=ay (uR w O q h hq hS hn hl);have HB:Hh (∀k,Sk rows q k->k<=E rows/\vf rows q=(oD (k<E rows)&&oD (cmpL ((U rows k []).take (E q)) q=0))):=ay λk hk=>⟨hk.le,hk.beg hS⟩;obtain⟨ar,cr,rfl,hc⟩:=h;have HC:Hh (∀j,j<E rows->∃(b o:Nat) (V:OA) (lr cu:Nat),ar=Q (az b o)/\aC w b (o+j) (Z V lr cu)/\E q<=lr/\lr<=cu/\∀d,Cl 62 #[Z V (E q) cu,O] (w.drewN d) λe w'=>e=rE (ai (cmpL ((U rows j []).take (E q)) q))/\∃q',w'=(w.drewN d).drewN q'):=ay λj hj=>by
  rcases hc with h0|⟨b,o,rfl,h⟩;omega;have⟨u,h1,hI,a',n',c',e,a3⟩:=h j hj;have hm:=hl _ (by rw[gD,gE hj];exact gM _:U rows j []∈rows);have a6:=hI;obtain⟨V,cu,eu,h2⟩:=hI;subst eu;simp only[vI]at e;obtain⟨-,rfl,rfl⟩:=e;refine⟨b,o,V,_,cu,rfl,h1,hm.1,a3,λd=>?_⟩;have a4:=hq.zz (rB eB d);cases V with
  |none=>
   have h0:E (U rows j [])=0:=by
    rcases h2 with h2|⟨b2,o2,e2,-⟩;exact h2;cases e2
   have e1:(U rows j []).take (E q)=[]:=by rw[dV.1 h0,take_nil]
   have e2:E q=0:=Oo;rw[e1,e2];exact zN _ _ O q ⟨wH,cu,rfl,Or.inl rfl⟩ a4 Ss Oo
  |some ad=>
   exact zN _ _ O q ((UX a6 hm.1).zz (rB eB d)) a4 (by rw[bZ];omega) Oo
 clear hc hS hl;obtain⟨aq,cq,rfl,-⟩:=hq;generalize vf rows q=ans at *;obtain⟨C,hC⟩:=Ex (λj=>cmpL _ q);have a5:Hh (∀j,cmpL ((U rows j []).take (E q)) q=C j):=ay λj=>by rw[hC]
 simp only[a5.o]at HC HB;clear hC a5;generalize E rows=n,E q=m at *;go_enter func105,ntmps105;go_wp2_with fail;apply KS.o.mono;rintro e w2 ⟨k,rfl,hk,d,rfl⟩;obtain⟨a7,I⟩:=HB k hk;clear KS HB hk;by_cases M:k<n
 .obtain⟨b,o,V,lr,cu,ea,c1,a8,a9,K⟩:=HC k M;subst ea;have i1:=aV M;have b1:m<=cu:=Oo;change Hh _ at K;have HA:Hh (ans=oD (C k=0)):=ay (by rw[I,fD M,dG]);clear HC I;generalize C k=y at *;go_wp2_with fail;apply (K.o _).mn;rintro w3 ⟨d3,rfl⟩;go_wp2;go_ret;exact⟨qJ (by rw[HA.o];first|rfl|simp),_,rfl⟩
 have i1:¬((k:Int)<n):=Oo;rw[fC M,eX]at I;subst I;clear HC;go_wp2;go_ret;exact⟨rfl,_,rfl⟩
def qBW{p}(I:k<E l):(l.take (k+1)).filter p=if p (U l k 0) then (l.take k).filter p++[U l k 0] else (l.take k).filter p:=by
 rw[tA,gE I,cZ];have e:U l k 0=l[k]:=by rw[gD,gE I];rfl
 rw[e];simp only[iK];by_cases h:p l[k]=true;rw[fE h,filter_cons_of_pos h];rfl;rw[fF h,filter_cons_of_neg h];simp
def qBX{v2}l{V}(h:IS w v l)(hl:E l<=1099511627776)(h2:IS w v2 V)(a9:E V<=1099511627776):
 Cl 100 #[v,v2] w λe w'=>∃g cap,e=rE (Z (Q (az g 0)) (E (shr l V)) cap)/\oW w' (J w.1) 3 1 (Z (Q (az g 0)) (E (shr l V)) cap) (E (shr l V)) ((shr l V).map ai)/\Bl w w':=by
 obtain⟨a,cap,rfl,hc⟩:=h;have H2:=ay h2;obtain⟨a2,c7,rfl,-⟩:=h2;have⟨I,a3⟩:=Ex (λk=>(l.take k).filter λx=>oD (x∈V));have HS:Hh (∀k,k<E l->I (k+1)=if oD (U l k 0∈V) then I k++[U l k 0] else I k):=ay λk hk=>by rw[a3];exact qBW hk
 have H0:Hh (I 0=[]):=ay (by rw[a3];rfl);have HE:Hh (I (E l)=shr l V):=ay (by rw[a3];simp[shr]);have c8:Hh (∀k,E (I k)<=k):=ay λk=>by
  rw[a3];exact bM (dH _ _) Sy
 rw[<-HE.o];obtain⟨n,hn⟩:=Ex (E l);rw[<-hn]at hc hl HS |-;have HC:=ay hc;clear hc hn a3 HE;go_enter func100,ntmps100;go_wp2;have b0:Bl w (S w (eZ #[] 3)):=aK;have a6:=ay b0;clear b0;go_loopw [5,11] (λv t wr=>∃k g cp lk:Nat,k<=n/\t=ai k/\v=sZ g 0 lk cp/\lk<=k/\Hh (lk=E (I k)/\oW wr (J w.1) 3 1 (sZ g 0 lk cp) lk ((I k).map ai)/\Bl w wr)) (λ_ t _=>n-(intOf t).toNat);exact⟨0,J w.1,0,0,eC,rfl,rfl,eA,ay (by rw[H0.o];exact⟨rfl,oM w _ 0 eA Dd rfl,a6⟩)⟩;clear a6;obtain⟨k,g,cp,lk,hk,rfl,rfl,c9,O⟩:=hrel;have b9:=O.2.2.size;by_cases a5:k<n
 .have i1:=aV a5;rcases HC.o with h0|⟨b,o,rfl,K⟩;omega;have c1:=(O.2.2.cell (bL w _ (K k a5))).trans (K k a5);have HK:=ay (ze _ _ V (U l k 0) (H2.o.zz O.2.2) a9);have e1:=HS k a5;clear K;generalize oD (U l k 0∈V)=y at *;generalize U l k 0=x at *;cases y
  .rw[fF Dd]at e1;have HF:Hh (lk=E (I (k+1))/\oW wr (J w.1) 3 1 (sZ g 0 lk cp) lk ((I (k+1)).map ai)/\Bl w wr):=ay (by rw[e1];exact O);clear e1 O;go_wp2_with fail;apply HK.o.mn;intro w1 hw1;subst w1;go_wp2;go_roundw;exact⟨k+1,g,cp,lk,Oo,Gg,rfl,Oo,HF⟩;exact Im
  rw[fE rfl]at e1;have E1:=ay e1;clear e1;go_wp2_with fail;apply HK.o.mn;intro w1 hw1;subst w1;go_wp2_with (first
   |(at_builtin;refine apL rfl rfl underlying24 Tryz.infoInt (O.o.2.1.alloc _) rfl rfl (qH _ _ _) Sy ?_;intro g3 cp3 w3 a4 M a7 a8)|fail)
  have HF:Hh (lk+1=E (I (k+1))/\oW w3 (J w.1) 3 1 (sZ g3 0 (lk+1) cp3) (lk+1) ((I (k+1)).map ai)/\Bl w w3):=ay (by
   rw[E1.o,lA,lS,mA];exact⟨by rw[O.o.1],a4,(O.2.2.alloc b9 _).grown M Sy (λq hq=>(O.2.1.lt q hq).1)⟩)
  clear a4 M a7 a8 O;go_roundw;exact⟨k+1,g3,cp3,lk+1,Oo,Gg,rfl,Oo,HF⟩;exact Im
 obtain rfl:k=n:=Oo;have i1:=aY k;obtain⟨h1,h3,h4⟩:=O.o;have HF:Hh (oW wr (J w.1) 3 1 (Z (Q (az g 0)) (E (I k)) cp) (E (I k)) ((I k).map ai)/\Bl w wr):=ay (by rw[<-h1];exact⟨h3,h4⟩);have H1:=ay h1;clear h1 h3 h4 O;go_wp2;go_ret;exact⟨g,cp,by rw[H1.o];rfl,HF.1,HF.2⟩
def Zy(h:qb l)(hi:i<E l):xV l i:=by
 unfold qb at h;rw[aT]at h;exact h i (by simpa using hi)
def Q8(h:qb l):∀i,i<E l->(i:Int)<=U l i 0/\U l i 0<6
 |0,hi=>by
  have:=Zy h hi;unfold xV at this;simp only[bV,dE]at this;omega
 |i+1,hi=>by
  have:=Zy h hi;have I:=Q8 h i Oo;unfold xV at this;simp only[bV,eT,dE,oZ]at this;omega
def xz(h:qb l):E l<=6:=by
 rcases dL 6 (E l) with I|I;have:=Q8 h 6 I;omega;exact I
def xK(h:qb l):l.Pairwise (·< ·):=by
 have step:∀j,j<E l->∀i,i<j->U l i 0<U l j 0:=by
  intro j;induction j with
  |zero=>intro _ i hi;omega
  |succ j ih=>
   intro I i hi;have:=Zy h I;unfold xV at this;simp only[bV,eT,dE,oZ]at this;by_cases e:i=j;subst e;omega;have:=ih Oo i Oo;omega
 rw[pairwise_iff_getElem];intro i j hi I K;have:=step j I i K;rwa[gD,gE hi,gD,gE I]at this
def qL{vs rows ws}(h:ql vs rows ws):qb vs/\E rows<=10000/\∀r∈rows,E r=E vs:=by
 unfold ql at h;simp only[bV,dE]at h;refine⟨h.1.1.1,h.1.1.2,λr M=>?_⟩;have⟨i,hi,e⟩:=gO M;have I:=h.1.2;unfold yM at I;rw[aT]at I;have K:=I i (by simpa using hi);unfold rowAt at K;simp only[bV,dE]at K;rw[gD,gE hi,dI,e]at K;omega
def YY(vs:LI)(rows:LL)(ws vars:LI):Bool:=ql vs rows ws&&qb vars&&Z3 vars vs
structure TQ(W:oX)(B:Nat)(v0 v1 v2:oV)(us:LV)(vs:LI)(rows:LL)(ws:LI):Prop where
 o0:oW W B 3 1 v0 (E vs) (vs.map ai)
 rq:RQ W B v1 us rows
 o2:oW W B 3 1 v2 (E ws) (ws.map ai)
 a02:Ap' v0 v2
 a0:∀i,i<E rows->Ap' (U us i tM) v0
 a2:∀i,i<E rows->Ap' (U us i tM) v2
def TQ.nil W B:TQ W B sn sn sn [] [] [] []:=
 ⟨eK,⟨eK,rfl,λi hi=>by simp at hi,λi j _ I=>by simp at I⟩,eK,λg h=>by simp[wN]at h,λi hi=>by simp at hi,λi hi=>by simp at hi⟩
def TQ.set{off v0 v1 v2 us vs ws rows}(h:TQ W B v0 v1 v2 us vs rows ws)(I:∃cur,W.1[p]?=Q (eZ cur 58 (0,0))):TQ (sW W (az p off) y) B v0 v1 v2 us vs rows ws:=
 ⟨qI h.o0 I Dd,h.rq.set I,qI h.o2 I Dd,h.a02,h.a0,h.a2⟩
def TQ.zz{v0 v1 v2 us vs ws rows}(h:TQ W B v0 v1 v2 us vs rows ws)(hb:Bl W W'):TQ W' B v0 v1 v2 us vs rows ws:=
 ⟨qB h.o0 hb,h.rq.zz hb,qB h.o2 hb,h.a02,h.a0,h.a2⟩
def zJ(n:Nat):LI:=wJ n 1
def Zz n:(zJ n).map ai=wJ n (ai 1):=by simp[zJ]
def uv:E (zJ n)=n:=by simp[zJ]
def UM w{v0 v1 v2}vv{vs rows ws vars}(h:IT w v0 v1 v2 vs rows ws)(hv:IS w vv vars)(hlv:E vars<=1099511627776)(g6:E vs<=1099511627776)(hS:qS rows):
 Cl 125 #[aQ #[v0,v1,v2],vv] w λe w'=>∃x0 x1 x2 us,e=rE (aQ #[x0,x1,x2])/\(if YY vs rows ws vars=true then TQ w' (J w.1) x0 x1 x2 us vars (srt (rows.map (qQ vs vars))) (zJ (E (srt (rows.map (qQ vs vars))))) else TQ w' (J w.1) x0 x1 x2 us [] [] [])/\Bl w w':=by
 have⟨W1,O⟩:=Ex (S (aJ w #[v0,v1,v2] 58) (eZ #[sn,sn,sn] 58));have d6:Bl w W1:=by rw[O];exact(aK).alloc Ss _
 have a5:Hh (TX W1 (J w.1) v0 v1 v2):=(by rw[O];exact(TX.zw _ _ _ _).zz aK);have a9:Hh (TX W1 (J w.1+1) sn sn sn):=(by
  rw[O];have:=TX.zw (aJ w #[v0,v1,v2] 58) sn sn sn;rwa[aM]at this)
 have HI:Hh (∀W,Bl W1 W->IT W v0 v1 v2 vs rows ws/\IS W vv vars):=λW hW=>⟨h.zz (bt d6 hW),hv.zz (bt d6 hW)⟩;have KT:=ay (vQ _ _ _ (HI _ eB).1 g6 hS);have KV:=ay λW hW=>zn W _ (HI W hW).2 hlv;have KP:=ay λW hW=>zq W _ _ _ _ (HI W hW).2 (HI W hW).1.e hlv g6;have b1:=qBA vars vs;change Hh _ at d6;obtain⟨a0,c0,e0,-⟩:=h.e;obtain⟨a1,c1,e1,-⟩:=h.x;obtain⟨a2,c2,e2,-⟩:=h.k;obtain⟨av,cv,e3,-⟩:=hv;have d0:=a5.o.c0;have d1:=a5.o.c1;have d2:=a5.o.c2;subst e0 e1 e2 e3;have HG:Hh (YY vs rows ws vars->(E vars<=6/\E vs<=6/\E rows<=10000/\(∀r∈rows,E r=E vs)/\xC rows (plc (λi=>oD (U vs i 0∈vars)) (E vs))=rows.map (qQ vs vars))):=λhb=>by
  unfold YY at hb;simp only[bV]at hb;have⟨⟨h1,h2⟩,h3⟩:=hb;have⟨h4,h5,h6⟩:=qL h1;refine⟨xz h2,xz h4,h5,h6,JA (xK h4) (xK h2) λx hx=>?_⟩;unfold Z3 at h3;rw[aT]at h3;simpa using h3 x hx
 have b9:=ay λhb W hW=>by
  have⟨g1,g2,g3,g4,g5⟩:=HG hb;have:=uV W _ (HI W hW).1 (HI W hW).2 Oo Oo Oo g4;rwa[g5]at this
 have c7:Hh (YY vs rows ws vars->∀W vr,Bl W1 W->(∃a c,vr=Z a (E (srt (rows.map (qQ vs vars)))) c)->Cl 89 #[Z av (E vars) cv,vr] W λe w'=>∃v0 v2,e=rE (aQ #[v0,vr,v2])/\oW w' (J W.1) 3 1 v0 (E vars) (vars.map ai)/\oW w' (J W.1) 3 1 v2 (E (srt (rows.map (qQ vs vars)))) (wJ (E (srt (rows.map (qQ vs vars)))) (ai 1))/\Ap' v0 v2/\Bl W w'):=λhb W vr hW g9=>by
  have⟨g1,g2,g3,g4,g5⟩:=HG hb;exact yR W _ _ _ _ (HI W hW).2 g9 Oo (bM (yK _ _ eA) (by rw[lM];omega))
 clear h hlv g6 hS;unfold YY at *;cases ht:ql vs rows ws
 .rw[ht]at KT;clear KV KP b9 c7 HG b1 ht;generalize E vs=l0,E rows=l1,E ws=l2,E vars=l3 at *;go_enter func125,ntmps125;go_upto_region 1 with fail;rw[<-O];clear O;go_wp2_with fail;apply KT.o.mn;intro w2 I;have K:=ay (a9.o.zz I);have a6:=ay (a5.o.zz I);have M:=ay I;have a7:=ay (bt d6 I);clear I KT a9 d0 d1 d2 d6;have f0:=K.o.L 0;have f1:=K.o.L 1;have f2:=K.o.L 2;have r0:=K.o.c0;have r1:=K.o.c1;have r2:=K.o.c2;go_wp2_with fail;refine aU (by simp[results,results125,go_sem,r0,r1,r2]) rfl ⟨_,_,_,rfl,⟨[],TQ.nil _ _⟩,((a7.o.setCell (iF _) _).setCell (iF _) _).setCell (iF _) _⟩
 cases hs:qb vars
 .rw[ht]at KT;rw[hs]at KV;clear KP b9 c7 HG b1 ht hs;generalize E vs=l0,E rows=l1,E ws=l2,E vars=l3 at *;go_enter func125,ntmps125;go_upto_region 1 with fail;rw[<-O];clear O;go_wp2_with fail;apply KT.o.mn;intro w2 I;have K:=ay (a9.o.zz I);have a6:=ay (a5.o.zz I);have M:=ay I;have a7:=ay (bt d6 I);clear I KT a9 d0 d1 d2 d6;go_wp2_with fail;apply (KV.o _ M.o).mn;intro w3 hw3;subst w3;have f0:=K.o.L 0;have f1:=K.o.L 1;have f2:=K.o.L 2;have r0:=K.o.c0;have r1:=K.o.c1;have r2:=K.o.c2;go_wp2_with fail;refine aU (by simp[results,results125,go_sem,r0,r1,r2]) rfl ⟨_,_,_,rfl,⟨[],TQ.nil _ _⟩,((a7.o.setCell (iF _) _).setCell (iF _) _).setCell (iF _) _⟩
 cases hq:Z3 vars vs
 .rw[ht]at KT;rw[hs]at KV;rw[hq]at b1;have i1:(E (plc (λi=>oD (U vars i 0∈vs)) (E vars)):Int)<(E vars:Int):=O1 (aN (b1.trans rfl))
  clear b9 c7 HG b1 ht hs hq;generalize E (plc (λi=>oD (U vars i 0∈vs)) (E vars))=lp,E vs=l0 at *;generalize E rows=l1,E ws=l2,E vars=l3 at *;go_enter func125,ntmps125;go_upto_region 1 with fail;rw[<-O];clear O;go_wp2_with fail;apply KT.o.mn;intro w2 I;have K:=ay (a9.o.zz I);have a6:=ay (a5.o.zz I);have M:=ay I;have a7:=ay (bt d6 I);have d0:=a6.o.c0;clear I KT a9 d1 d2 d6 a5;go_wp2_with fail;apply (KV.o _ M.o).mn;intro w3 hw3;subst w3;go_wp2_with fail;apply (KP.o _ M.o).mono;rintro e w3 ⟨v3,rfl,c8,V⟩;have⟨a3,c3,e3⟩:=qt c8;subst e3;have a8:=ay (K.o.zz V);have c9:=ay (a6.o.zz V);have d7:=ay (bt M V);have d3:=ay (bt a7 V);clear c8 V K a6 M a7 KV KP d0;have f0:=a8.o.L 0;have f1:=a8.o.L 1;have f2:=a8.o.L 2;have r0:=a8.o.c0;have r1:=a8.o.c1;have r2:=a8.o.c2;go_wp2_with fail;refine aU (by simp[results,results125,go_sem,r0,r1,r2]) rfl ⟨_,_,_,rfl,⟨[],TQ.nil _ _⟩,((d3.o.setCell (iF _) _).setCell (iF _) _).setCell (iF _) _⟩
 have d4:=ay (b9 (by rw[ht,hs,hq];rfl));have d5:=ay (c7 (by rw[ht,hs,hq];rfl));rw[ht]at KT;rw[hs]at KV;rw[hq]at b1;have i1:¬((E (plc (λi=>oD (U vars i 0∈vs)) (E vars)):Int)<(E vars:Int)):=O1 (pU (b1.trans rfl))
 clear b9 c7 HG b1 ht hs hq;generalize E (plc (λi=>oD (U vars i 0∈vs)) (E vars))=lp at *;have⟨R,hR⟩:=Ex (srt (rows.map (qQ vs vars)));change Hh _ at hR;rw[<-hR]at d4 d5;generalize E vs=l0,E rows=l1,E ws=l2,hl3:E vars=l3 at *;change Hh _ at hl3;go_enter func125,ntmps125;go_upto_region 1 with fail;rw[<-O];clear O;go_wp2_with fail;apply KT.o.mn;intro w2 I;have K:=ay (a9.o.zz I);have a6:=ay (a5.o.zz I);have M:=ay I;have a7:=ay (bt d6 I);have d0:=a6.o.c0;clear I KT a9 d1 d2 d6 a5;go_wp2_with fail;apply (KV.o _ M.o).mn;intro w3 hw3;subst w3;go_wp2_with fail;apply (KP.o _ M.o).mono;rintro e w3 ⟨v3,rfl,c8,V⟩;have⟨a3,c3,e3⟩:=qt c8;subst e3;have a8:=ay (K.o.zz V);have c9:=ay (a6.o.zz V);have d7:=ay (bt M V);have d3:=ay (bt a7 V);clear c8 V K a6 M a7 KV KP d0;have d0:=c9.o.c0;have d1:=c9.o.c1;have d2:=c9.o.c2;go_wp2_with fail;apply (d4.o _ d7.o).mono;rintro e w4 ⟨v4,us,rfl,d8,d9⟩;have g8:=ay (a8.o.zz d9);have e7:=ay (bt d3 d9);have e8:=ay (d8.zx d3.o.size);have f9:=ay (d5 _ _ (bt d7 d9) d8.sl);have⟨a4,c4,e4⟩:=d8.sl;subst e4;clear d8 d9 d4 d5 d0 d1 d2 c9 a8 d7 d3;go_wp2_with fail;apply f9.o.mono;rintro e w5 ⟨x0,x2,rfl,e9,f7,hap,f8⟩;have b8:=ay (g8.o.zz f8);have h9:=ay (bt e7 f8);have i0:Hh (TQ w5 (J w.1) x0 (Z a4 (E R) c4) x2 us vars R (zJ (E R))):=⟨qE (by rw[hl3.o];exact e9) e7.o.size,e8.o.zz f8,qE (by rw[uv,Zz];exact f7) e7.o.size,hap,λi hi g h1 h2=>by
  have e1:=((e8.o.l i hi).lt g h1).2;have e2:=(e9.lt g h2).1;omega,λi hi g h1 h2=>by
  have e1:=((e8.o.l i hi).lt g h1).2;have e2:=(f7.lt g h2).1;omega⟩
 have⟨b0,k0,e5⟩:=qt e9;have⟨b2,k2,e6⟩:=qt f7;subst e5 e6;clear e9 f7 hap f8 f9 g8 e7 e8;have f0:=b8.o.L 0;have f1:=b8.o.L 1;have f2:=b8.o.L 2;have r0:=b8.o.c0;have r1:=b8.o.c1;have r2:=b8.o.c2;have g7:=ay b8.o.zy;go_wp2_with fail;refine aU (v:=aQ #[Z b0 l3 k0,Z a4 (E R) c4,Z b2 (E R) k2]) (by simp[results,results125,go_sem,r0,r1,r2]) rfl ⟨_,_,_,rfl,⟨us,?_⟩,((h9.o.setCell (iF _) _).setCell (iF _) _).setCell (iF _) _⟩;rw[<-hR.o];exact((i0.o.set g7).set (qU g7)).set (qU (qU g7))
def TX.set2{v0 v1 v2}(h:TX W p v0 v1 v2)y:TX (sW W (az p 2) y) p v0 v1 y:=⟨by rw[eN h.i];rfl⟩
def TX.grown{v0 v1 v2}(h:TX W p v0 v1 v2)(I:oW W B e s u n xs)(K:e≠58)(M:(S W o).grownBy w3 u.ownBlock):TX w3 p v0 v1 v2:=⟨(zD M h.lt (own_ne I h.zy K)).trans h.i⟩
structure KX(W:oX)(B p:Nat)(v0 v1 v2:oV)(us:LV)(vs:LI)(rows:LL)(ws:LI):Prop where
 tx:TX W p v0 v1 v2
 tq:TQ W B v0 v1 v2 us vs rows ws
 lo:B<=p
section
variable {W W' w3:oX} {B p:Nat} {v0 v1 v2 v' u:oV} {us:LV} {vs ws l:LI} {rows:LL} {o:Obj} {x:Int}
def KX.zz(h:KX W B p v0 v1 v2 us vs rows ws)(hb:Bl W W'):KX W' B p v0 v1 v2 us vs rows ws:=⟨h.tx.zz hb,h.tq.zz hb,h.lo⟩
def TX.set1(h:TX W p v0 v1 v2)y:TX (sW W (az p 1) y) p v0 y v2:=⟨by rw[eN h.i];rfl⟩
def KX.pushR(h:KX W B p v0 v1 v2 us vs rows ws)(hu:oW W B 3 1 u (E l) (l.map ai))(hr:∀i,i<E rows->∀g,(U us i tM).ownBlock=Q g->u.ownBlock≠Q g)(h0:Ap' u v0)(h2:Ap' u v2)
 (I:oW w3 B 24 1 v' (E rows+1) (us++[u])) (O:(S W o).grownBy w3 v1.ownBlock):KX (sW w3 (az p 1) v') B p v0 v' v2 (us++[u]) vs (rows++[l]) ws:=by
 have M:=h.tx.grown h.tq.rq.z Dd O;have hint:∀{y:oV} {k:Nat} {xs:LV},oW W B 3 1 y k xs->oW w3 B 3 1 y k xs:=λV=>
  qD V λg K=>zD O (V.lt g K).2 (own_ne h.tq.rq.z (qK V K) Dd)
 have hl:=h.tq.rq.C;have e1:∀i,i<E rows->U (us++[u]) i tM=U us i undef:=λi hi=>by rw[gD,aL Oo,<-gD]
 have e2:U (us++[u]) (E rows) tM=u:=by rw[gD,bQ Oo,show E rows-E us=0 by omega];rfl
 refine⟨M.set1 _,⟨qI (hint h.tq.o0) M.zy Dd,(h.tq.rq.P hu hr I O).set M.zy,qI (hint h.tq.o2) M.zy Dd,h.tq.a02,λi hi=>?_,λi hi=>?_⟩,h.lo⟩
 .rw[lA,lS]at hi;by_cases e:i<E rows;rw[e1 i e];exact h.tq.a0 i e;obtain rfl:i=E rows:=Oo;rw[e2];exact h0
 rw[lA,lS]at hi;by_cases e:i<E rows;rw[e1 i e];exact h.tq.a2 i e;obtain rfl:i=E rows:=Oo;rw[e2];exact h2
def KX.pushW(h:KX W B p v0 v1 v2 us vs rows ws)(K:oW w3 B 3 1 v' (E ws+1) (ws.map ai++[ai x]))(V:(S W o).grownBy w3 v2.ownBlock)(a3:∀g,v'.ownBlock=Q g->v2.ownBlock=Q g\/J W.1<=g):
 KX (sW w3 (az p 2) v') B p v0 v1 v' us vs rows (ws++[x]):=by
 have M:=h.tx.grown h.tq.o2 Dd V;have ap:∀{y:oV} {k:Nat} {xs:LV},oW W B 3 1 y k xs->Ap' y v2->Ap' y v':=λO ha g h1 h2=>by
  rcases a3 g h2 with h3|h3;exact ha g h1 h3;have:=(O.lt g h1).2;omega
 have hint:∀{y:oV} {k:Nat} {xs:LV},oW W B 3 1 y k xs->Ap' y v2->oW w3 B 3 1 y k xs:=λO ha=>
  qD O λg I=>zD V (O.lt g I).2 (λe=>ha g I e.symm)
 refine⟨M.set2 _,⟨qI (hint h.tq.o0 h.tq.a02) M.zy Dd,⟨?_,h.tq.rq.C,λi hi=>qI (hint (h.tq.rq.l i hi) (h.tq.a2 i hi)) M.zy Dd,h.tq.rq.ap⟩,?_,ap h.tq.o0 h.tq.a02,h.tq.a0,λi hi=>ap (h.tq.rq.l i hi) (h.tq.a2 i hi)⟩,h.lo⟩;refine qI (qD h.tq.rq.z λg I=>zD V (h.tq.rq.z.lt g I).2 (own_ne h.tq.o2 (qK h.tq.rq.z I) Dd)) M.zy Dd;refine qI ?_ M.zy Dd;rw[lA,lS,mA];exact K
def KX.zw{v0}(hv:oW W B 3 1 v0 (E vs) (vs.map ai))(hB:B<=J W.1):KX (S W (eZ #[v0,sn,sn] 58)) B (J W.1) v0 sn sn [] vs [] []:=
 ⟨TX.zw _ _ _ _,⟨hv.alloc _,⟨eK,rfl,λi hi=>by simp at hi,λi j _ I=>by simp at I⟩,eK,λg _ h=>by simp[wN]at h,λi hi=>by simp at hi,λi hi=>by simp at hi⟩,hB⟩
end
open Meet
def Tryz.infoTrieP:(Tryz.prog.info? 183).map (λi=>(i.zero,i.size,i.bytes))=Q (Q (.pointer wH),1,8):=Kl
def Vh(h:oW w B e s v n xs):∃a cap,v=Z a n cap:=by
 rcases h.2 with ⟨rfl,I⟩|⟨g,cap,cur,rfl,_⟩;exact⟨wH,0,by rw[I]⟩;exact⟨_,cap,rfl⟩
def TS(W0 W:oX)(rs:LL)(K root:Nat):Prop:=∃D N f g0 g1,TM rs D N/\TR W (J W0.1) D N N f g0 g1/\f []=root/\(∀p,D p->E (N p)<=K)/\Bl W0 W
def LST(W0 W:oX)(rs:LL)(r:LI)(i K root node:Nat):Prop:=∃D N f g0 g1,TM (rs++[r.take i]) D N/\TR W (J W0.1) D N N f g0 g1/\f []=root/\f (r.take i)=node/\(∀p,D p->E (N p)<=K+1/\(i<=E p->E (N p)<=K))/\Bl W0 W
def LST.zv r(h:TS W0 W rs K root):LST W0 W rs r 0 K root root:=by
 have⟨D,N,f,g0,g1,V,hT,I,M,hb⟩:=h;exact⟨D,N,f,g0,g1,V.begin,hT,I,I,λp O=>⟨O1 (M p O),λ_=>M p O⟩,hb⟩
def LST.done(h:LST W0 W rs r (E r) K root node):TS W0 W (rs++[r]) (K+1) root:=by
 obtain⟨D,N,f,g0,g1,I,M,O,-,V,hb⟩:=h;exact⟨D,N,f,g0,g1,I.done,M,O,λp hp=>(V p hp).1,hb⟩
def LST.hit(h:LST W0 W rs r i K root node)(hi:i<E r)(hs:∀s∈rs,cmpL s r<0):
 (∃m ga ca gb cb nx,eQ W (az node 0)=Q (sZ ga 0 (m+1) ca)/\eQ W (az node 1)=Q (sZ gb 0 (m+1) cb)/\eQ W (az ga m)=Q (ai (U r i 0))/\eQ W (az gb m)=Q (pZ nx 0)/\m+1<=K/\LST W0 W rs r (i+1) K root nx)
 \/(∃D N f g0 g1,U r i 0∉N (r.take i)/\TM (rs++[r.take i]) D N/\TR W (J W0.1) D N N f g0 g1/\f []=root/\f (r.take i)=node/\(∀p,D p->E (N p)<=K+1/\(i<=E p->E (N p)<=K))/\Bl W0 W):=by
 have⟨D,N,f,g0,g1,V,M,hr,I,hk,hb⟩:=h;have O:=V.here;by_cases hx:U r i 0∈N (r.take i)
 .refine .inl ?_;have⟨h0,h1⟩:=qIa (V.asc _ O) hx (V.le hi hs);obtain⟨m,hm⟩:∃m,E (N (r.take i))=m+1:=⟨E (N (r.take i))-1,Oo⟩;rw[hm,oZ]at h1;have hg:(N (r.take i))[m]?=Q (U r i 0):=by
   rw[gD,gE Oo,dI]at h1;rw[gE Oo,h1]
  have⟨ga,ca,ea,a3⟩:=xg (M.o0 _ O) (j:=m) Oo;have⟨gb,cb,eb,a4⟩:=xg (M.o1 _ O) (j:=m) Oo;rw[bK,hg]at a3 a4;have a5:=(hk _ O).2 (by rw[bZ];omega);refine⟨m,ga,ca,gb,cb,f (r.take i++[U r i 0]),?_,?_,a3,a4,Oo,D,N,f,g0,g1,V.hit hi hx,M,hr,by rw[qy hi],λp hp=>⟨(hk p hp).1,λhl=>(hk p hp).2 Oo⟩,hb⟩;rw[<-I,M.c0 O,ea,hm];rw[<-I,M.c1 O,eb,hm]
 exact .inr ⟨D,N,f,g0,g1,hx,V,M,hr,I,hk,hb⟩
def LST.miss(hi:i<E r)(hs:∀s∈rs,cmpL s r<0)(hx:U r i 0∉N (r.take i))(hM:TM (rs++[r.take i]) D N)
 (hT:TR I (J W0.1) D (λq=>if q=r.take i then N (r.take i)++[U r i 0] else N q) N f g0 g1) (hr:f []=root) (hk:∀p,D p->E (N p)<=K+1/\(i<=E p->E (N p)<=K)) (hb:Bl W0 I)
 (M:oW w3 (J W0.1) 183 1 v' (E (N (r.take i))+1) (((N (r.take i)).map λx=>.pointer (Q (az (f (r.take i++[x])) 0)))++[pZ I.1.size 0]))
 (hg:((I.alloc (eZ #[sn,sn] 230)).alloc o).grownBy w3 (g1 (r.take i)).ownBlock) (a3:∀g,v'.ownBlock=Q g->(g1 (r.take i)).ownBlock=Q g\/I.1.size<=g):
 LST W0 (sW w3 (az (f (r.take i)) 1) v') rs r (i+1) K root I.1.size:=by
 have O:=hM.here;have V:¬D (r.take i++[U r i 0]):=λhd=>hx ((hM.mem _ O _).2 hd);have hs1:=hb.size;have a4:=hT.belw O V hx hb.size (N0':=kX N (r.take i) (U r i 0)) (λq hq=>by
  unfold kX;by_cases e:q=r.take i;rw[fE e,fE e];rw[fF e,fF e,fF (λe2=>V (by rw[<-e2];exact hq))]) (by unfold kX;rw[fF (Xc _ _),fE rfl]) M hg a3
 refine⟨_,_,_,_,_,hM.miss hi hs hx,a4,?_,?_,λp hp=>?_,?_⟩;show(if _ then _ else _)=_;rw[fF Ss];exact hr;show(if _ then _ else _)=_;rw[fE (qy hi)]
 .have a5:E (r.take i)=i:=by rw[bZ];omega
  unfold kX;by_cases e:p=r.take i;have:=(hk _ O).2 Oo;rw[fE e,lA,lS];refine⟨Oo,λhl=>?_⟩;rw[e,a5]at hl;omega;rw[fF e];by_cases e2:p=r.take i++[U r i 0];rw[fE e2];exact⟨eC,λ_=>eC⟩;rw[fF e2];have hd:=hp.resolve_right e2;exact⟨(hk p hd).1,λhl=>(hk p hd).2 Oo⟩
 exact(((hb.alloc hs1 _).alloc Sy _).grown hg Sy (λg a6=>((hT.o1 _ O).lt g a6).1)).setCell (hT.low _ O) _
def Vi{t}:∀j u,[v][j]?=Q u->(S (S w o) (eZ #[v] t)).cell? (((az (J w.1+1) 0):Addr).add j)=Q u:=by
 have:=qH (S w o) v t;rwa[aM]at this
def JH{cs:AV}{t}(h:W.1[b]?=Q (eZ cs t (0,0))):W.frozen? (az b j)=false:=by unfold World.frozen?;rw[h];simp
def LST.half{g3 cp3 a3 k1}{a1:OA}(hi:i<E r)(hs:∀s∈rs,cmpL s r<0)(hx:U r i 0∉N (r.take i))(hM:TM (rs++[r.take i]) D N)
 (hT:TR W (J W0.1) D N N f g0 g1) (hr:f []=root) (hk:∀p,D p->E (N p)<=K+1/\(i<=E p->E (N p)<=K)) (hb:Bl W0 W) (h1:g1 (r.take i)=Z a1 a3 k1)
 (a5:oW w3 (J W0.1) 3 1 (sZ g3 0 (E (N (r.take i))+1) cp3) (E (N (r.take i))+1) ((N (r.take i)).map ai++[ai (U r i 0)])) (hg:(S W o).grownBy w3 (g0 (r.take i)).ownBlock) (a7:(g0 (r.take i)).ownBlock=Q g3\/g3=J (S W o).1):
 ∃W2 xs,W2=sW w3 (az (f (r.take i)) 0) (sZ g3 0 (E (N (r.take i))+1) cp3)/\eQ W2 (az (f (r.take i)) 1)=Q (Z a1 a3 k1)/\oW W2 (J W0.1) 183 1 (Z a1 a3 k1) (E (N (r.take i))) xs/\J W0.1<=J W2.1
  /\∀w4 o' g4 M,oW w4 (J W0.1) 183 1 (sZ g4 0 (E (N (r.take i))+1) M) (E (N (r.take i))+1) (xs++[pZ (J W2.1) 0])->(S (S W2 (eZ #[sn,sn] 230)) o').grownBy w4 (Value.slice a1 a3 k1).ownBlock->((Value.slice a1 a3 k1).ownBlock=Q g4\/g4=J (S (S W2 (eZ #[sn,sn] 230)) o').1)->
   (w4.frozen? (az (f (r.take i)) 1)=nF/\eQ w4 (az (f (r.take i)) 1)=Q (Z a1 a3 k1))/\eQ (sW w4 (az (f (r.take i)) 1) (sZ g4 0 (E (N (r.take i))+1) M)) (az (f (r.take i)) 1)=Q (sZ g4 0 (E (N (r.take i))+1) M)/\eQ (sW w4 (az (f (r.take i)) 1) (sZ g4 0 (E (N (r.take i))+1) M)) (az g4 (E (N (r.take i))))=Q (pZ (J W2.1) 0)
   /\LST W0 (sW w4 (az (f (r.take i)) 1) (sZ g4 0 (E (N (r.take i))+1) M)) rs r (i+1) K root (J W2.1):=by
 have hh:=hM.here;have O:=hT.vals hh a5 hg (λg I=>by
  simp only[wN,oI]at I;subst I;rcases a7 with h2|h2;exact .inl h2;exact .inr (by rw[h2];simp))
 have hs1:=hb.size;have a6:Bl W0 (sC w3 (f (r.take i)) 0 (sZ g3 0 (E (N (r.take i))+1) cp3)):=((hb.alloc hs1 _).grown hg Sy (λg I=>((hT.o0 _ hh).lt g I).1)).setCell (hT.low _ hh) _;refine⟨_,_,rfl,by rw[O.c1 hh,h1],by have:=O.o1 _ hh;rwa[h1]at this,a6.size,λw4 o' g4 M V hg4 a4=>?_⟩;rw[<-h1]at hg4 a4;have hblk:=(J3 hg4 (O.lt hh) (own_ne (O.o1 _ hh) (O.zy hh) Dd)).trans (O.i _ hh);refine⟨⟨JH hblk,by rw[eI hblk,<-h1];rfl⟩,?_,?_,LST.miss hi hs hx hM O hr hk a6 V hg4 (λg I=>by
  simp only[wN,oI]at I;subst I;rcases a4 with h2|h2;exact .inl h2;exact .inr (by rw[h2];simp;omega))⟩
 have:=bI _ _ 1 _ _ (sZ g4 0 (E (N (r.take i))+1) M) hblk;rw[eI this];rfl;have⟨g,c,e,h2⟩:=xg (qD (w':=sC w4 (f (r.take i)) 1 (sZ g4 0 (E (N (r.take i))+1) M)) V λg I=>eG (λe2=>own_ne V ⟨_,hblk⟩ Dd (by rw[I];exact congrArg _ e2.symm))) (j:=E (N (r.take i))) Oo;simp only[vI,oI,aI]at e;rw[<-e.1.1]at h2;rw[h2,bQ Ss,lM,iV];rfl
def qFW W0 w K vr(h:TS W0 w rs K root)(hr:IS W0 vr r)(hl:E r<=1000)(hs:∀s∈rs,cmpL s r<0)(hK:K<=1000000):
 Cl 163 #[pZ root 0,vr] w λe w'=>(∃v,e=rE v)/\TS W0 w' (rs++[r]) (K+1) root:=by
 have⟨iP,hj,e4,e5,e6⟩:=aX Tryz.infoTrieP;obtain⟨ar,cr,rfl,hc⟩:=hr;have HC:Hh (∀W,Bl W0 W->∀j,j<E r->∃(b o:Nat),ar=Q (az b o)/\eQ W (az b (o+j))=Q (ai (U r j 0))):=λW hW j hj=>by
  rcases hc with h0|⟨b,o,rfl,h⟩;omega;exact⟨b,o,rfl,(hW.cell (bL _ _ (h j hj))).trans (h j hj)⟩
 have HL:=ay (LST.zv r h);have HS:=ay hs;have HD:Hh (∀W nd,LST W0 W rs r (E r) K root nd->TS W0 W (rs++[r]) (K+1) root):=λW nd h=>h.done;have HR:Hh (∀j,j<E r->∀W nd,LST W0 W rs r j K root nd->Bl W0 W):=λj _ W nd ⟨_,_,_,_,_,_,_,_,_,_,hb⟩=>hb;have HH:Hh (∀j,j<E r->∀W nd,LST W0 W rs r j K root nd->_):=λj hj W nd h=>h.hit hj hs;have HM:Hh (E r=E r):=rfl;have⟨n,hn⟩:=Ex (E r);clear hc h hs;rw[<-hn]at HC HD HR HH hl HM |-;have d3:=ay hn;clear hn HM;go_enter func163,ntmps163;go_wp2;go_loopw [0,9] (λu t wr=>∃(j nd:Nat),j<=n/\t=ai j/\u=pZ nd 0/\Hh (LST W0 wr rs r j K root nd)) (λ_ t _=>n-(intOf t).toNat);exact⟨0,root,eC,rfl,rfl,HL⟩;clear HL;obtain⟨j,nd,g6,rfl,rfl,HT⟩:=hrel;by_cases c8:j<n
 .have i1:=aV c8;have⟨b,o,ea,e1⟩:=HC _ (HR j c8 wr nd HT) j c8;subst ea;rcases HH.o j c8 wr nd HT.o with ⟨m,ga,ca,gb,cb,nx,c0,c1,c2,c3,g7,hL⟩|⟨D,N,f,g0,g1,hx,hM,a6,e7,c9,hk,hb⟩
  .have HL:=ay hL;clear hL HH HR HD HC HS HT d3;generalize U r j 0=x at *;go_wp2;go_roundw;exact⟨j+1,nx,Oo,Gg,rfl,HL⟩;exact Im
  have hh:=hM.here;have e8:j<E r:=by rw[<-d3.o];exact c8
  have g8:=(hk _ hh).2 (by rw[bZ];omega);have⟨a0,k0,e0⟩:=Vh (a6.o0 _ hh);have⟨a1,k1,f7⟩:=Vh (a6.o1 _ hh);have d0:Hh (∀w3 o,(S wr o).grownBy w3 (Value.slice a0 (E (N (r.take j))) k0).ownBlock->w3.frozen? (az nd 0)=nF/\eQ w3 (az nd 0)=Q (Z a0 (E (N (r.take j))) k0)):=λw3 o hg=>by
   rw[<-e0]at hg;have:=a6.kept0 hh hg hh;rw[c9]at this;exact⟨JH this,by rw[eI this,<-e0];rfl⟩
  have a9:=ay λw3 o g3 cp3 f8 hg f9=>LST.half (w3:=w3) (o:=o) (g3:=g3) (cp3:=cp3) e8 HS hx hM a6 e7 hk hb f7 f8 hg f9;have d2:=ay (by have:=a6.o0 _ hh;rwa[e0]at this);have c0:=a6.c0 hh;rw[e0,c9]at c0;rw[e0,c9]at a9;have hs1:=hb.size;have d4:E (N (r.take j))=0\/∃m ga y,E (N (r.take j))=m+1/\a0=Q (az ga 0)/\eQ wr (az ga m)=Q (ai y)/\y≠U r j 0:=by
   rcases pV (E (N (r.take j))) with h0|h0;exact .inl h0;obtain⟨m,hm⟩:∃m,E (N (r.take j))=m+1:=⟨E (N (r.take j))-1,Oo⟩;have⟨ga,ca,ea,g5⟩:=xg (a6.o0 _ hh) (j:=m) Oo;rw[e0]at ea;simp only[vI]at ea;refine .inr ⟨m,ga,_,hm,ea.1,?_,qGx hx h0⟩;have e9:U (N (r.take j)) (E (N (r.take j))-1) 0=(N (r.take j))[m]' Oo:=by
    rw[gD,gE Oo,dI];simp only[hm,oZ]
   rw[g5,bK,gE Oo,e9];rfl
  clear HH HR HD HC HT HS hx hM a6 e7 c9 hk hb hh e0 f7 e8 d3;generalize U r j 0=x at *;generalize E (N (r.take j))=l0 at *;rcases d4 with h0|⟨m,ga,y,h0,ea,cy,hy⟩
  .subst h0;go_upto_region 6 with (at_builtin;(refine apL rfl rfl underlying24 Tryz.infoInt (d2.o.alloc _) rfl rfl (qH _ _ _) Sy ?_;intro g3 cp3 w3 a3 I a7 b1;obtain⟨d5,d6⟩:=d0 _ _ I));obtain⟨W2,xs,b7,d1,b8,hs2,a4⟩:=a9 _ _ _ _ a3 I a7;have b9:=ay b8;have O:=ay a4;rw[<-b7];clear b7 a3 I a7 b1 d5 d6 b8 a4 a9 d0 d2 c0;go_upto_region 7 with (at_builtin;(refine apL rfl rfl underlying178 Tryz.infoTrieP ((b9.o.alloc _).alloc _) rfl rfl (Vi) Sy ?_;intro g4 a8 w4 V M a5 c7;obtain⟨d7,d8⟩:=(O _ _ _ _ V M a5).1));obtain⟨-,q1,q2,hL⟩:=O _ _ _ _ V M a5;have HL:=ay hL;clear hL V M a5 c7 d7 d8 O b9 d1;generalize sC w4 nd 1 (sZ g4 0 (0+1) a8)=W5 at *;go_wp2;go_roundw;exact⟨j+1,J W2.1,Oo,Gg,rfl,HL⟩;exact Im
  subst h0 ea;have dm:oD ((m:Int)<0)=false:=fC Oo;have yx:(y != x):=by simpa using hy
  go_upto_region 6 with (at_builtin;(refine apL rfl rfl underlying24 Tryz.infoInt (d2.o.alloc _) rfl rfl (qH _ _ _) Sy ?_;intro g3 cp3 w3 a3 I a7 b1;obtain⟨d5,d6⟩:=d0 _ _ I));obtain⟨W2,xs,b7,d1,b8,hs2,a4⟩:=a9 _ _ _ _ a3 I a7;have b9:=ay b8;have O:=ay a4;rw[<-b7];clear b7 a3 I a7 b1 d5 d6 b8 a4 a9 d0 d2 c0 cy;go_upto_region 7 with (at_builtin;(refine apL rfl rfl underlying178 Tryz.infoTrieP ((b9.o.alloc _).alloc _) rfl rfl (Vi) Sy ?_;intro g4 a8 w4 V M a5 c7;obtain⟨d7,d8⟩:=(O _ _ _ _ V M a5).1));obtain⟨-,q1,q2,hL⟩:=O _ _ _ _ V M a5;have HL:=ay hL;clear hL V M a5 c7 d7 d8 O b9 d1;generalize sC w4 nd 1 (sZ g4 0 (m+1+1) a8)=W5 at *;go_wp2;go_roundw;exact⟨j+1,J W2.1,Oo,Gg,rfl,HL⟩;exact Im
 obtain rfl:j=n:=Oo;have i1:=aY j;have HF:=ay (HD _ _ HT);clear HC HD HR HH HT HS;go_wp2;go_end0
 exact⟨⟨_,rfl⟩,HF⟩
def TS.zv w:TS w (S w (eZ #[sn,sn] 230)) [] 0 (J w.1):=by
 refine⟨_,_,λ_=>J w.1,λ_=>sn,λ_=>sn,TM.none,⟨λp _=>eO,λp _=>eA,λp _=>eK,λp _=>eK,λp q I hq _=>I.trans hq.symm,λp q _ _ _ g h=>by simp[wN]at h,λp q _ _ _ g h=>by simp[wN]at h⟩,rfl,λp _=>eA,aK⟩
def TS.bw(h:TS W0 W rs K root):Bl W0 W:=by
 have⟨_,_,_,_,_,_,_,_,_,hb⟩:=h;exact hb
def qIZ{rows}(h:SL rows)(I:j<E rows):∀s∈rows.take j,cmpL s (U rows j [])<0:=λs hs=>by
 have⟨i,hi,e⟩:=gO hs;rw[bZ]at hi;rw[getElem_take]at e;have:=pairwise_iff_getElem.1 h i j Oo I Oo;rw[gD,gE I,<-e];exact this
def XK w vr rows(hr:ISS w vr rows)(hS:SL rows)(hn:E rows<=100000)(hl:∀r∈rows,E r<=1000):
 Cl 128 #[vr] w λe w'=>∃c,e=rE (.pointer c)/\(rows=[]/\c=wH\/rows≠[]/\∃root,c=Q (az root 0)/\TS w w' rows (E rows) root)/\Bl w w':=by
 obtain⟨ar,cr,rfl,hc⟩:=hr;have M:Hh (∀W,Bl w W->∀j,j<E rows->∃(b o:Nat) (u:oV),ar=Q (az b o)/\aC W b (o+j) u/\IS w u (U rows j [])):=λW hW j K=>by
  rcases hc with h0|⟨b,o,rfl,h⟩;omega;have⟨u,h1,h2⟩:=h j K;exact⟨b,o,u,rfl,(hW.cell (bL w _ h1)).trans h1,h2⟩
 have O:Hh (∀W u j,j<E rows->TS w W (rows.take j) j (J w.1)->IS w u (U rows j [])->Cl 163 #[pZ (J w.1) 0,u] W λe w'=>(∃v,e=rE v)/\TS w w' (rows.take (j+1)) (j+1) (J w.1)):=λW u j K hT hu=>by
  have e:rows.take (j+1)=rows.take j++[U rows j []]:=by
   rw[tA,gE K,gD,gE K];rfl
  rw[e];exact qFW w W j u hT hu (hl _ (by rw[gD,gE K];exact gM _)) (qIZ hS K) Oo
 have H0:=ay (TS.zv w);have V:Hh (∀W,TS w W (rows.take (E rows)) (E rows) (J w.1)->TS w W rows (E rows) (J w.1)):=λW h=>by rw[tL]at h;exact h
 have HZ:Hh (E rows=0->rows=[]):=λh=>dV.1 h;have I:Hh (0<E rows->rows≠[]):=λh e=>by rw[e]at h;simp at h
 have a3:Hh (rows.take 0=[]):=rfl;clear hc hS hl;have⟨n,a4⟩:=Ex (E rows);rw[<-a4]at M O V HZ I hn |-;clear a4;rcases pV n with h0|h0
 .subst h0;have hz:=HZ rfl;clear M O V HZ I H0;go_enter func128,ntmps128;go_wp2;go_ret;exact⟨_,rfl,.inl ⟨hz,rfl⟩,eB⟩
 have i0:((n:Int) == 0)=false:=Sy;have hz:=ay (I h0);clear HZ I;go_enter func128,ntmps128;go_upto_region 4 with fail;generalize aJ w #[sn,sn] 230=W1 at *;go_wp2;go_loopw [13] (λt wr=>∃(j:Nat),j<=n/\t=ai j/\Hh (TS w wr (rows.take j) j (J w.1))) (mZ n);exact⟨0,eC,rfl,ay (by rw[a3.o];exact H0)⟩;clear H0 a3;obtain⟨j,K,rfl,HT⟩:=hrel;by_cases a5:j<n
 .have i1:=aV a5;have⟨b,o,u,ea,e1,hu⟩:=M _ HT.o.bw j a5;subst ea;have a6:=ay (O _ u j a5 HT hu);obtain⟨au,cu,rfl,-⟩:=hu;clear M O V HT;generalize E (U rows j [])=lr at *;go_wp2_with fail;apply a6.o.mono;rintro e w2 ⟨⟨v,rfl⟩,a7⟩;change Hh _ at a7;clear a6;go_wp2;go_roundw;exact⟨j+1,Oo,Gg,a7⟩;exact Im
 obtain rfl:j=n:=Oo;have i1:=aY j;have HF:=ay (V _ HT);clear M O V HT;go_wp2;go_ret;exact⟨_,rfl,.inr ⟨hz,_,rfl,HF⟩,HF.o.bw⟩
def qIG w q(M:IS w vr q)(O:E q<=1000):
 aF 130 #[.pointer wH,vr] w (oB nF) λw'=>w'=w:=by
 obtain⟨ar,V,rfl,K⟩:=M;rcases pV (E q) with I|I
 .rw[I];clear K;go_enter func130,ntmps130;go_wp2;go_loop [0,9] (λu t=>u=.pointer wH/\t=ai 0) (λ_ _=>0);exact⟨rfl,rfl⟩;obtain⟨rfl,rfl⟩:=hrel;go_wp2;go_ret;exact⟨rfl,rfl⟩
 rcases K with h1|⟨b,o,rfl,h⟩;omega;have c1:aC w b o (ai (U q 0 0)):=h 0 I;have i1:(0:Int)<(E q:Int):=Oo;clear h;generalize U q 0 0=x,E q=n at *;go_enter func130,ntmps130;go_wp2;go_loop [0,9] (λu t=>u=.pointer wH/\t=ai 0) (λ_ _=>0);exact⟨rfl,rfl⟩;obtain⟨rfl,rfl⟩:=hrel;go_wp2;go_ret;exact⟨rfl,rfl⟩
def TC(W0 W:oX)(keys:LL)(c:OA):Prop:=keys=[]/\c=wH\/keys≠[]/\∃root,c=Q (az root 0)/\TS W0 W keys (E keys) root
def TC.has{keys c}(h:TC W0 w4 keys c)(K:Bl w4 W)(hl:∀r∈keys,E r=L)(hn:E keys<=100000)(M:L<=1000)(I:IS W vr q)(hq:E q=L):
 aG 130 #[.pointer c,vr] W (oB (oD (q∈keys))):=by
 rcases h with ⟨rfl,rfl⟩|⟨O,root,rfl,D,N,f,g0,g1,V,hT,hf,hk,-⟩;apply (qIG W q I Oo).mn;intro w' rfl;exact⟨Ss,eB⟩;rw[<-hf];exact qFV W D N f L q V (hT.zz K) (λp hp=>O1 (hk p hp)) hl O I hq M
def TQ.zx{v0 v1 v2 us vs ws rows}(h:TQ W B v0 v1 v2 us vs rows ws)(hB:B'<=B):TQ W B' v0 v1 v2 us vs rows ws:=
 ⟨qE h.o0 hB,h.rq.zx hB,qE h.o2 hB,h.a02,h.a0,h.a2⟩
def qFJ(I vb:LI):∀p∈plc (λi=>oD (U I i 0∈vb)) (E I),0<=p/\p<(E I:Int):=λp K=>by
 unfold plc at K;rw[cC]at K;have⟨j,M,e⟩:=K;rw[cK,cJ]at M;simp only[rQ]at e;omega
def three(w:oX)(a0 a1 a2 b0 b1 b2:oV):oX:=S (S (S w (eZ #[a0,a1,a2] 58)) (eZ #[b0,b1,b2] 58)) (eZ #[sn,sn,sn] 58)
def qGh w a0 a1 a2 b0 I b2:Bl w (three w a0 a1 a2 b0 I b2)/\TX (three w a0 a1 a2 b0 I b2) (J w.1) a0 a1 a2/\TX (three w a0 a1 a2 b0 I b2) (J w.1+1) b0 I b2/\TX (three w a0 a1 a2 b0 I b2) (J w.1+2) sn sn sn:=by
 have K:∀(W:oX) (o:Obj),Bl W (S W o):=λW o=>aK;refine⟨bt (bt (K w _) (K _ _)) (K _ _),((TX.zw _ _ _ _).zz (K _ _)).zz (K _ _),?_,?_⟩;have:=(TX.zw (aJ w #[a0,a1,a2] 58) b0 I b2).zz (K _ (eZ #[sn,sn,sn] 58));rwa[aM]at this;have:=TX.zw (S (aJ w #[a0,a1,a2] 58) (eZ #[b0,I,b2] 58)) sn sn sn;rwa[aM,aM]at this
def Z8(va vb:LI)(ra rb:LL)(i:Nat):Bool:=UZ va vb rb (U ra i [])
def ApW(u v:oV):Prop:=∀g,u.ownBlock=Q g->v.ownBlock≠Q g
def qG(h:oW w B e s v n xs):∃a cap,v=Z a n cap:=by
 rcases h.2 with ⟨rfl,I⟩|⟨g,cap,cur,rfl,-⟩;exact⟨wH,0,by rw[I]⟩;exact⟨_,cap,rfl⟩
structure TW(W:oX)(B:Nat)(v0 v1 v2:oV)(us:LV)(vs:LI)(rows:LL)(ws:LI):Prop where
 o0:oW W B 3 1 v0 (E vs) (vs.map ai)
 rq:RQ W B v1 us rows
 o2:oW W B 3 1 v2 (E ws) (ws.map ai)
 a02:ApW v0 v2
 a0:∀i,i<E rows->ApW (U us i tM) v0
 a2:∀i,i<E rows->ApW (U us i tM) v2
def TW.zz{v0 v1 v2 us vs ws rows}(h:TW W B v0 v1 v2 us vs rows ws)(hb:Bl W W'):TW W' B v0 v1 v2 us vs rows ws:=
 ⟨qB h.o0 hb,h.rq.zz hb,qB h.o2 hb,h.a02,h.a0,h.a2⟩
def TW.zx{v0 v1 v2 us vs ws rows}(h:TW W B v0 v1 v2 us vs rows ws)(hB:B'<=B):TW W B' v0 v1 v2 us vs rows ws:=
 ⟨qE h.o0 hB,h.rq.zx hB,qE h.o2 hB,h.a02,h.a0,h.a2⟩
structure TbR where
 v0:oV
 v1:oV
 v2:oV
 us:LV
 e:LI
 x:LL
 k:LI
def QP:TbR:=⟨tM,tM,tM,[],[],[],[]⟩
def tcs(t:TbR):LV:=[t.v0,t.v1,t.v2]
def bls(t:TbR):LV:=t.v0::t.v2::t.us
def TWr(W:oX)(B:Nat)(t:TbR):Prop:=TW W B t.v0 t.v1 t.v2 t.us t.e t.x t.k
def TWr.lt{t}(h:TWr W B t)(I:x∈bls t)(K:x.ownBlock=Q g):B<=g/\g<J W.1:=by
 rcases cH.1 I with rfl|I;exact h.o0.lt g K;rcases cH.1 I with rfl|I;exact h.o2.lt g K;obtain⟨i,hi,rfl⟩:=gO I
 have:=(h.rq.l i (by rw[<-h.rq.C];exact hi)).lt g (by rw[gD,gE hi];exact K);exact this
structure TBs(W:oX)(B:Nat)(v:oV)(tl:List TbR):Prop where
 z:oW W B 58 3 v (E tl) (tl.flatMap tcs)
 l:∀t∈tl,TWr W B t
 ap:tl.Pairwise λs t=>∀x∈bls s,∀y∈bls t,ApW x y
def TBs.zz{tl}(h:TBs W B v tl)(hb:Bl W W'):TBs W' B v tl:=
 ⟨qB h.z hb,λt I=>TW.zz (h.l t I) hb,h.ap⟩
def TBs.zx{tl}(h:TBs W B v tl)(hB:B'<=B):TBs W B' v tl:=
 ⟨qE h.z hB,λt I=>TW.zx (h.l t I) hB,h.ap⟩
def TW.grownT{t}(h:TWr W B t)(ho:oW W B' 58 3 v n xs)(O:(S W o).grownBy w3 v.ownBlock):TWr w3 B t:=by
 have hint:∀{x:oV} {k B':Nat} {xs:LV},oW W B' 3 1 x k xs->oW w3 B' 3 1 x k xs:=λK=>
  qD K λg I=>zD O (K.lt g I).2 (own_ne ho (qK K I) Dd)
 have M:∀{x:oV} {k B':Nat} {xs:LV},oW W B' 24 1 x k xs->oW w3 B' 24 1 x k xs:=λK=>
  qD K λg I=>zD O (K.lt g I).2 (own_ne ho (qK K I) Dd)
 exact⟨hint h.o0,⟨M h.rq.z,h.rq.C,λi hi=>hint (h.rq.l i hi),h.rq.ap⟩,hint h.o2,h.a02,h.a0,h.a2⟩
def TBs.M{tl}(h:TBs W0 B v tl)(hB:B<=J W0.1):∀W t o w3 v',Bl W0 W->TWr W (J W0.1) t->(S W o).grownBy w3 v.ownBlock->oW w3 B 58 3 v' (E tl+1) (tl.flatMap tcs++[t.v0,t.v1,t.v2])->TBs w3 B v' (tl++[t]):=by
 intro W t o w3 v' hb M O I;have ho:=qB h.z hb;refine⟨?_,λs hs=>?_,?_⟩;rw[lA,dM];exact I
 .rcases cF.1 hs with hs|hs;exact TW.grownT (TW.zz (h.l s hs) hb) ho O;rw[cI.1 hs];exact TW.zx (TW.grownT M ho O) hB
 refine pairwise_append.2 ⟨h.ap,pairwise_singleton _ _,λs hs t' K x hx y V g h1 h2=>?_⟩;rw[cI.1 K]at V;have h3:=((h.l s hs).lt hx h1).2;have h4:=(M.lt V h2).1;omega
def uT(w:oX)x y z t:∀j u,[x,y,z][j]?=Q u->(S w (eZ #[x,y,z] t)).cell? (((az (J w.1) 0):Addr).add j)=Q u:=by
 intro j u I;have e:((az (J w.1) 0):Addr).add j=(az (J w.1) j):=by unfold Addr.add;by_cases K:j=0 <;> simp[K]
 rw[e,eH rfl];match j,I with
 |0,I=>simpa using I
 |1,I=>simpa using I
 |2,I=>simpa using I
 |j+3,I=>simp at I
def Tryz.infoTb:(Tryz.prog.info? 58).map (λi=>(i.zero,i.size,i.bytes))=Q (Q (aQ #[sn,sn,sn]),3,72):=Kl
def tvB(t:TbR):TbV:=⟨t.e,t.x,t.k⟩
def TBs.its{tl}(h:TBs W B v tl):ITs W v (tl.map tvB):=by
 have⟨a,cap,e,K⟩:=qEC _ (λ_=>rfl) QP h.z;refine⟨a,cap,by rw[lM];exact e,?_⟩;rcases K with O|⟨g,V,-,K⟩;exact .inl (by rw[lM];exact O);refine .inr ⟨g,0,V,λj I=>?_⟩;rw[lM]at I;have M:TWr W B (U tl j QP):=h.l _ (by rw[gD,gE I];exact gM _);have eg:U (tl.map tvB) j qA=tvB (U tl j QP):=by
  rw[gD,gD,bK,gE I];rfl
 rw[eg,cU];exact⟨_,_,_,K j 0 I Oo,K j 1 I Oo,K j 2 I Oo,qN M.o0,M.rq.rs.iss eB,qN M.o2⟩
def Fz(B:Nat)(P:WP)(w:oX):Prop:=∀W',(∀k,B<=k->k<J w.1->W'.1[k]?=w.1[k]?)->P W'
section
variable {B B' p:Nat} {P iQ:WP} {w w':oX}
def Fz.self(h:Fz B P w):P w:=h w λ_ _ _=>rfl
def Fz.zz(h:Fz B P w)(hb:Bl w w'):Fz B P w':=λW' I=>h W' λk M K=>(I k M (bN K hb.size)).trans (hb.block k K)
def Fz.mono(h:Fz B P w)(hB:B'<=B):Fz B' P w:=λW' I=>h W' λk K M=>I k (bM hB K) M
def Fz.imp(h:Fz B P w)(f:∀W,P W->iQ W):Fz B iQ w:=λW' I=>f _ (h W' I)
def RQ.fz{us ls}(h:RQ w B v us ls):Fz B (λW=>RQ W B v us ls) w:=λ_ I=>
 ⟨qD h.z λg K=>I g (h.z.lt g K).1 (h.z.lt g K).2,h.C,λi hi=>qD (h.l i hi) λg K=>I g ((h.l i hi).lt g K).1 ((h.l i hi).lt g K).2,h.ap⟩
end
structure TbC where
 v0:oV
 v1:oV
 v2:oV
 t:TbV
def qFs:TbC:=⟨tM,tM,tM,qA⟩
def tcc(r:TbC):LV:=[r.v0,r.v1,r.v2]
def ITc(W:oX)(r:TbC):Prop:=IT W r.v0 r.v1 r.v2 r.t.e r.t.x r.t.k
