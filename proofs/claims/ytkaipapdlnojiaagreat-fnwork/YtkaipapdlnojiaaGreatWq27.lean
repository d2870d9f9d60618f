import Derived.Test.YtkaipapdlnojiaaGreatWq26
set_option maxHeartbeats 40000000
set_option maxRecDepth 1000000
namespace Go.Proofs.YtkaipapdlnojiaaGreat
open Go.RowKit
variable {ls:List (List Int)}{p:List Int}{us:List Value}{b cap n n0:Nat}{v:Value}{W W0 wr:World}
def ISx(X:Value->Prop)(w:World)(v:Value)(l:List Int):Prop:=ISc w v l/\X v
structure RSx(X:Value->Prop)(W0 W:World)(v:Value)(us:List Value)(ls:List (List Int)):Prop where
 sl:∃a cap,v=.slice a ls.length cap/\ls.length<=cap/\(ls.length=0∨∃b o,a=some ⟨b,o,none⟩/\∀j,j < ls.length->W.cell? ⟨b,o+j,none⟩=some (us.getD j undef))
 len:us.length=ls.length
 each:∀i,i < ls.length->ISx X W0 (us.getD i undef) (ls.getD i [])
theorem RSx.below{X:Value->Prop}{W':World}(h:RSx X W0 W v us ls)(hb:Bl W W'):RSx X W0 W' v us ls:=by
 obtain⟨⟨a,cap,rfl,M,I⟩,O,U⟩:=h;refine⟨⟨a,cap,rfl,M,?_⟩,O,U⟩;rcases I with I|⟨b,o,rfl,I⟩
 ·exact Or.inl I
 ·exact Or.inr ⟨b,o,rfl,λj K=>(hb.cell (p:=⟨b,o+j,none⟩) (bL W _ (I j K))).trans (I j K)⟩
theorem RSx.take{X:Value->Prop}{a:Option Addr}(h:RSx X W0 W (.slice a n0 cap) us ls)(O:n<=ls.length):RSx X W0 W (.slice a n cap) (us.take n) (ls.take n):=by
 obtain⟨⟨U,K,e,V,I⟩,h2,M⟩:=h;simp only[Value.slice.injEq]at e;obtain⟨rfl,rfl,rfl⟩:=e;have hl:(ls.take n).length=n:=by rw[bZ];omega
 refine⟨⟨a,cap,by rw[hl],Oo,?_⟩,by rw[hl,bZ];omega,λi hi=>?_⟩
 ·rcases I with I|⟨b,o,rfl,I⟩
  ·exact Or.inl Oo
  ·exact Or.inr ⟨b,o,rfl,λj hj=>by rw[zq Oo];exact I j Oo⟩
 ·rw[zq Oo,zq Oo];exact M i Oo
theorem RSx.drop{X:Value->Prop}{o:Nat}(h:RSx X W0 W (.slice (some ⟨b,o,none⟩) n0 cap) us ls)(U:n<=ls.length):RSx X W0 W (.slice (some ⟨b,o+n,none⟩) (n0 - n) (cap - n)) (us.drop n) (ls.drop n):=by
 obtain⟨⟨V,K,e,hc,I⟩,h2,O⟩:=h;simp only[Value.slice.injEq]at e;obtain⟨rfl,rfl,rfl⟩:=e;have hl:(ls.drop n).length=ls.length - n:=List.length_drop ..;refine⟨⟨_,_,by rw[hl],Oo,?_⟩,by rw[hl,List.length_drop];omega,λi hi=>?_⟩
 ·rcases I with I|⟨b',o',M,I⟩
  ·exact Or.inl Oo
  ·simp only[Option.some.injEq,Addr.mk.injEq,and_true]at M;obtain⟨rfl,rfl⟩:=M;exact Or.inr ⟨b,o+n,rfl,λj hj=>by rw[vm,Nat.add_assoc];exact I (n+j) Oo⟩
 ·rw[vm,vm];exact O (n+i) Oo
structure MSx(X:Value->Prop)(W0 W wr:World)(v:Value)(us:List Value)(ls:List (List Int)):Prop where
 bel:Bl W wr
 own:wr.ownsRow W.heap.size 25 1 v ls.length us
 len:us.length=ls.length
 each:∀i,i < ls.length->ISx X W0 (us.getD i undef) (ls.getD i [])
theorem MSx.start(X:Value->Prop)(W0 W:World):MSx X W0 W (W.alloc (.cells #[] 25)) (.slice (some ⟨W.heap.size,0,none⟩) 0 0) [] []:=
 ⟨(bM _ _).alloc (bK _) _,oM W #[] 0 (bK _) Dd rfl,rfl,λi hi=>by simp at hi⟩
theorem MSx.push{X:Value->Prop}{w3:World}{v' u:Value}{l:List Int}{o:Obj}(h:MSx X W0 W wr v us ls)(K:ISx X W0 u l)(I:w3.ownsRow W.heap.size 25 1 v' (ls.length+1) (us++[u]))(M:(wr.alloc o).grownBy w3 v.ownBlock):MSx X W0 W w3 v' (us++[u]) (ls++[l]):=by
 refine⟨(h.bel.alloc h.bel.size o).grown M (by have:=h.bel.size;simp;omega) (λk O=>(h.own.lt k O).1),by rw[lA];exact I,by simp[h.len],λi hi=>?_⟩;rw[lA,lS]at hi;by_cases e:i < ls.length
 ·rw[gD,aL (by rw[h.len];exact e),gD (l:=ls++[l]),aL e,<-gD,<-gD];exact h.each i e
 ·have U:(us++[u]).getD i undef=u:=by rw[gD,bX (by rw[h.len];omega),show i - us.length=0 by rw[h.len];omega];rfl
  have V:(ls++[l]).getD i []=l:=by rw[gD,bX Oo,show i - ls.length=0 by omega];rfl
  rw[U,V];exact K
theorem MSx.rs{X:Value->Prop}(h:MSx X W0 W wr v us ls):RSx X W0 wr v us ls:=by
 refine⟨?_,h.len,h.each⟩;rcases h.own.2 with ⟨rfl,I⟩|⟨g,cap,cur,rfl,M,O,I,K,-,U⟩
 ·exact⟨none,0,by rw[I],Oo,Or.inl I⟩
 ·refine⟨_,cap,rfl,?_,Or.inr ⟨g,0,rfl,λj V=>?_⟩⟩
  ·exact I
  ·have hlen:=h.len;rw[Nat.zero_add,cell_of_row _ _ _ _ _ _ O,gD,bC Oo,Option.getD_some,<-bC (by omega:j < us.length),<-U,List.getElem?_take_of_lt Oo,Array.getElem?_toList]
theorem MSx.drewN{X:Value->Prop}(h:MSx X W0 W wr v us ls)(n:Nat):MSx X W0 W (wr.drewN n) v us ls:=⟨⟨h.bel.os,h.bel.tape,h.bel.output,h.bel.size,h.bel.block⟩,h.own,h.len,h.each⟩
theorem Vd(X:Value->Prop)(W0:World):∀(n:Nat) (W:World) (v:Value) (us:List Value) (ls:List (List Int)),ls.length<=n->Bl W0 W->RSx X W0 W v us ls->ls.length<=100000->(∀r∈ls,r.length<=1099511627776)->
 Cl 84 #[v] W λe w'=>∃v' a4,e=.returned v'/\RSx X W0 w' v' a4 (srt ls)/\qD7 W v v'/\Bl W w':=by
 intro n;induction n with
 |zero=>
  intro W v us ls hn hB h hl hM;have HR:=hid h;obtain⟨⟨a,cap,rfl,-⟩,-,-⟩:=h;have e0:ls.length=0:=Oo;have hS:srt ls=ls:=vk Oo;rw[hS];rw[e0]at HR ⊢;go_enter Tryz.func84,Tryz.ntmps84
  go_wp2;go_ret;exact⟨_,us,rfl,HR.out,Or.inl rfl,bM _ _⟩
 |succ n ih=>
  intro W v us ls hn hB h hl hM;by_cases h2:ls.length < 2
  ·have HR:=hid h;obtain⟨⟨a,cap,rfl,-⟩,-,-⟩:=h;have hS:srt ls=ls:=vk h2;rw[hS];have i1:(ls.length:Int) < 2:=Oo;go_enter Tryz.func84,Tryz.ntmps84
   go_wp2;go_ret;exact⟨_,us,rfl,HR.out,Or.inl rfl,bM _ _⟩
  ·rw[ZW h2];have HR:=hid h;obtain⟨⟨a,cap,rfl,e2,hc⟩,-,-⟩:=h
   obtain⟨b,o,rfl,-⟩:∃b o,a=some ⟨b,o,none⟩/\∀j,j < ls.length->W.cell? ⟨b,o+j,none⟩=some (us.getD j undef):=by
    rcases hc with h0|h0
    ·omega
    ·exact h0
   clear hc;obtain⟨N,hN⟩:∃N,N=ls.length:=⟨_,rfl⟩
   have KA:Hid (∀w1,Bl W w1->Cl 84 #[.slice (some ⟨b,o,none⟩) (N / 2) cap] w1 λe w'=>∃v' a4,e=.returned v'/\RSx X W0 w' v' a4 (srt (ls.take (N / 2)))/\Bl w1 w'):=hid λw1 hb=>(
    ih w1 _ (us.take (N / 2)) (ls.take (N / 2)) (by rw[bZ];omega) (bt hB hb) ((HR.out.below hb).take Oo) (by rw[bZ];omega) (λr hr=>hM r (List.mem_of_mem_take hr))).mono λe w' ⟨v',a4,h1,h2,_,h3⟩=>⟨v',a4,h1,h2,h3⟩
   have KB:Hid (∀w1,Bl W w1->Cl 84 #[.slice (some ⟨b,o+N / 2,none⟩) (N - N / 2) (cap - N / 2)] w1 λe w'=>∃v' a4,e=.returned v'/\RSx X W0 w' v' a4 (srt (ls.drop (N / 2)))/\Bl w1 w'):=hid λw1 hb=>by
    have:=ih w1 (.slice (some ⟨b,o+N / 2,none⟩) (N - N / 2) (cap - N / 2)) (us.drop (N / 2)) (ls.drop (N / 2)) (by rw[List.length_drop];omega) (bt hB hb) (by rw[hN];exact(HR.out.below hb).drop Oo) (by rw[List.length_drop];omega) (λr hr=>hM r (List.mem_of_mem_drop hr));exact this.mono λe w' ⟨v',a4,h1,h2,_,h3⟩=>⟨v',a4,h1,h2,h3⟩
   have e8:Hid (∀r∈srt (ls.take (N / 2)),r.length<=1099511627776):=hid λr hr=>hM r (List.mem_of_mem_take (((yp _ (ls.take (N / 2)) (bK _)).2 r).1 hr));have e9:Hid (∀r∈srt (ls.drop (N / 2)),r.length<=1099511627776):=hid λr hr=>hM r (List.mem_of_mem_drop (((yp _ (ls.drop (N / 2)) (bK _)).2 r).1 hr));have h6:(srt (ls.take (N / 2))).length<=100000:=bQ (uM _ _ (bK _)) (by rw[bZ];omega);have h7:(srt (ls.drop (N / 2))).length<=100000:=bQ (uM _ _ (bK _)) (by rw[List.length_drop];omega);rw[<-hN]at e2 hl h2 ⊢;have q2:¬((N:Int) < 2):=Oo;have q5:¬cap=N / 2:=Oo;have q6:N / 2<=cap:=Oo;have q7:N / 2<=N:=Oo;have HB:=hid hB;clear ih hn HR hM hN hB;generalize srt (ls.take (N / 2))=la at *;generalize srt (ls.drop (N / 2))=lb at *;clear us;go_enter Tryz.func84,Tryz.ntmps84
   go_wp2_with fail
   refine(KA.out W (bM _ _)).mono ?_;rintro e w1 ⟨va,ua,rfl,f4,f7⟩;have e4:=hid f4;have d0:=hid f7;clear f4 f7 KA;go_wp2_with fail
   refine(KB.out w1 d0.out).mono ?_;rintro e w2 ⟨vb,ub,rfl,f8,d6⟩;have e3:=hid (e4.out.below d6);have f9:=hid f8;have g2:=hid (bt HB.out (bt d0.out d6));have g4:=hid (bt d0.out d6);obtain⟨⟨aa,ca,rfl,-,-⟩,-,-⟩:=e4.out;obtain⟨⟨ab,cb,rfl,-,-⟩,-,-⟩:=f8;clear d6 KB e4 d0 HB q2 q5 q6 q7 e2 h2;have g5:=hid (MSx.start X W0 w2)
   have g6:Hid (∀W,Bl w2 W->∀i,i < la.length->∃b o u,aa=some ⟨b,o,none⟩/\W.cell? ⟨b,o+i,none⟩=some u/\ISx X W0 u (la.getD i [])):=hid λW hW i hi=>by
    obtain⟨⟨a',c',e,-,h1⟩,-,h3⟩:=e3.out.below hW;simp only[Value.slice.injEq]at e;obtain⟨rfl,-,-⟩:=e;rcases h1 with h1|⟨b',o',rfl,h1⟩
    ·omega
    ·exact⟨b',o',_,rfl,h1 i hi,h3 i hi⟩
   have e5:Hid (∀W,Bl w2 W->∀i,i < lb.length->∃b o u,ab=some ⟨b,o,none⟩/\W.cell? ⟨b,o+i,none⟩=some u/\ISx X W0 u (lb.getD i [])):=hid λW hW i hi=>by
    obtain⟨⟨a',c',e,-,h1⟩,-,h3⟩:=f9.out.below hW;simp only[Value.slice.injEq]at e;obtain⟨rfl,-,-⟩:=e;rcases h1 with h1|⟨b',o',rfl,h1⟩
    ·omega
    ·exact⟨b',o',_,rfl,h1 i hi,h3 i hi⟩
   have KC:Hid (∀W i j u v,Bl w2 W->i < la.length->j < lb.length->ISx X W0 u (la.getD i [])->ISx X W0 v (lb.getD j [])->Cl 81 #[u,v] W λe w'=>e=.returned (.int .i64 (cmpL (la.getD i []) (lb.getD j [])))/\∃q,w'=W.drewN q):=hid λW i j u v hW hi hj hu hv=>
    zB W u v _ _ (hu.1.1.below (bt g2.out hW)) (hv.1.1.below (bt g2.out hW)) (e8.out _ (by rw[gD,bC hi];exact gM _)) (e9.out _ (by rw[gD,bC hj];exact gM _))
   have HM:Hid (∀i j,i < la.length->j < lb.length->la.drop i=la.getD i []::la.drop (i+1)/\lb.drop j=lb.getD j []::lb.drop (j+1)):=hid λi j hi hj=>⟨drop_cons hi,drop_cons hj⟩;have a8:Hid (∀i,i < la.length->la.drop i=la.getD i []::la.drop (i+1)):=hid λi hi=>drop_cons hi;have a9:Hid (∀i,i < lb.length->lb.drop i=lb.getD i []::lb.drop (i+1)):=hid λi hi=>drop_cons hi;have d7:Hid (∀i,¬i < la.length->la.drop i=[]):=hid λi hi=>JR hi;have d8:Hid (∀i,¬i < lb.length->lb.drop i=[]):=hid λi hi=>JR hi
   have h8:Hid (∀lo i j,lo++mrg (la.drop i) (lb.drop j)=mrg la lb->lo.length<=200000):=hid λlo i j h=>by
    have:=yJ _ la lb (bK _);rw[<-h,lA]at this;omega
   clear e3 f9 e8 e9 HM;obtain⟨na,g7⟩:∃na,na=la.length:=⟨_,rfl⟩;obtain⟨nb,g8⟩:∃nb,nb=lb.length:=⟨_,rfl⟩;rw[<-g7]at g6 KC a8 d7 h6 ⊢;rw[<-g8]at e5 KC a9 d8 h7 ⊢;clear g7 g8;obtain⟨iS,hj,b0,b7,b9⟩:=info_parts Tryz.infoIS;go_wp2_with fail
   go_loopw [5,6,7] (λt5 t6 t7 wr=>∃(i j:Nat) (vo:Value),i<=na/\j<=nb/\t6=.int .i64 i/\t7=.int .i64 j/\vo=t5/\Hid (∃uo lo,lo++mrg (la.drop i) (lb.drop j)=mrg la lb/\MSx X W0 w2 wr vo uo lo)) (λ_ t6 t7 _=>(na - (intOf t6).toNat)+(nb - (intOf t7).toNat))
   case atStart=>exact⟨0,0,_,nZ _,nZ _,rfl,rfl,rfl,hid ⟨[],[],Ss,g5.out⟩⟩
   case round=>
    clear g5;obtain⟨i,j,vo,hi,j6,rfl,rfl,rfl,HT⟩:=hrel;obtain⟨uo,lo,e6,g9⟩:=HT.out;have a5:=hid e6;have O:=hid g9;have hlen:=h8.out lo i j e6;clear HT e6 g9;by_cases a3:i < na
    ·have i1:(i:Int) < (na:Int):=Oo;have i3:¬((i:Int)=(na:Int)):=Oo;have i7:((i:Int) == (na:Int))=false:=by simp;omega
     have i8:¬(i=na):=Oo;obtain⟨b1,o1,u1,ea,c1,h4⟩:=g6.out wr O.out.bel i a3;subst ea;have d9:=hid h4;obtain⟨⟨⟨a1,k1,rfl,-⟩,-⟩,-⟩:=h4;by_cases V:j < nb
     ·have i2:(j:Int) < (nb:Int):=Oo;have i4:¬((j:Int)=(nb:Int)):=Oo;have i5:((j:Int) == (nb:Int))=false:=by simp;omega
      have i6:¬(j=nb):=Oo;obtain⟨b2,o2,u2,ea,c2,c7⟩:=e5.out wr O.out.bel j V;subst ea;have e1:=hid c7;obtain⟨⟨⟨a2,k2,rfl,-⟩,-⟩,-⟩:=c7;have c8:Hid (∀W,Bl w2 W->Cl 81 #[.slice a1 (la.getD i []).length k1,.slice a2 (lb.getD j []).length k2] W λe w'=>e=.returned (.int .i64 (cmpL (la.getD i []) (lb.getD j [])))/\∃q,w'=W.drewN q):=hid λW hW=>KC.out W i j _ _ hW a3 V d9.out e1.out
      have h9:Hid (cmpL (la.getD i []) (lb.getD j []) < 0->lo++[la.getD i []]++mrg (la.drop (i+1)) (lb.drop j)=mrg la lb):=hid λhc=>by
       have h:=a5.out;rw[a8.out i a3,a9.out j V,XN hc,<-a9.out j V]at h;rw[List.append_assoc];exact h
      have i0:Hid (0 < cmpL (la.getD i []) (lb.getD j [])->lo++[lb.getD j []]++mrg (la.drop i) (lb.drop (j+1))=mrg la lb):=hid λhc=>by
       have h:=a5.out;rw[a8.out i a3,a9.out j V,XO hc,<-a8.out i a3]at h;rw[List.append_assoc];exact h
      have j0:Hid (¬cmpL (la.getD i []) (lb.getD j []) < 0->¬0 < cmpL (la.getD i []) (lb.getD j [])->lo++[la.getD i []]++mrg (la.drop (i+1)) (lb.drop (j+1))=mrg la lb):=hid λh1 h2=>by
       have h:=a5.out;rw[a8.out i a3,a9.out j V,XP h1 h2]at h;rw[List.append_assoc];exact h
      generalize cmpL (la.getD i []) (lb.getD j [])=cc at *;generalize (la.getD i []).length=m1 at *;generalize (lb.getD j []).length=m2 at *;clear KC a5;have e7:Hid (∀q,Bl w2 (wr.drewN q)):=hid λq=>(O.out.drewN q).bel;have h5:Hid (∀n q,Bl w2 ((wr.drewN n).drewN q)):=hid λn q=>((O.out.drewN n).drewN q).bel;by_cases h1:cc < 0
      ·have j1:decide (cc < 0)=true:=by simp[h1]
       go_upto_region 12 with fail
       go_quiet (first|(go_at_call 81;exact Calls.quiet_of (c8.out _ (e7.out _))))
       have I:=hid (O.out.drewN nq);go_wp2_with (first|(at_builtin;refine wpList_append_lies _ rfl _ _ 24 rfl w2.heap.size 25 iS (.slice none 0 0) 1 24 Tryz.underlying24 hj b0 b7 b9 rfl Dd vo _ uo rfl (I.out.own.alloc _) ⟨_,0,none⟩ 1 1 [.slice a1 m1 k1] rfl rfl (qH _ _ _) (λu hu=>by simp at hu;subst hu;rfl) Dd (by unfold maxLen;omega) Oo (by have:=I.out.bel.size;simp at this ⊢;omega) _ rfl ?_;intro g3 cp3 w3 M K a6 a7)|fail)
       go_roundw
       case rel=>exact⟨i+1,j,_,Oo,Oo,Gg,rfl,rfl,hid ⟨_,_,h9.out h1,I.out.push d9.out M K⟩⟩
       case measure=>simp[intOf];omega
      ·have j1:decide (cc < 0)=false:=by simp;omega
       by_cases h2:0 < cc
       ·have j2:decide (0 < cc)=true:=by simp[h2]
        go_upto_region 12 with fail
        go_quiet (first|(go_at_call 81;exact Calls.quiet_of (c8.out _ (e7.out _))))
        go_upto_region 15 with fail
        have U:=hid (O.out.drewN nq);have c9:Hid (∀q,Bl w2 ((wr.drewN nq).drewN q)):=hid λq=>h5.out nq q;have d1:(wr.drewN nq).cell? ⟨b1,o1+i,none⟩=some (.slice a1 m1 k1):=c1;have d2:(wr.drewN nq).cell? ⟨b2,o2+j,none⟩=some (.slice a2 m2 k2):=c2;generalize wr.drewN nq=W5 at U c9 d1 d2 ⊢;go_quiet (first|(go_at_call 81;exact Calls.quiet_of (c8.out _ (c9.out _))))
        have I:=hid (U.out.drewN nq);go_wp2_with (first|(at_builtin;refine wpList_append_lies _ rfl _ _ 24 rfl w2.heap.size 25 iS (.slice none 0 0) 1 24 Tryz.underlying24 hj b0 b7 b9 rfl Dd vo _ uo rfl (I.out.own.alloc _) ⟨_,0,none⟩ 1 1 [.slice a2 m2 k2] rfl rfl (qH _ _ _) (λu hu=>by simp at hu;subst hu;rfl) Dd (by unfold maxLen;omega) Oo (by have:=I.out.bel.size;simp at this ⊢;omega) _ rfl ?_;intro g3 cp3 w3 M K a6 a7)|fail)
        go_roundw
        case rel=>exact⟨i,j+1,_,Oo,Oo,rfl,Gg,rfl,hid ⟨_,_,i0.out h2,I.out.push e1.out M K⟩⟩
        case measure=>simp[intOf];omega
       ·have j2:decide (0 < cc)=false:=by simp;omega
        go_upto_region 12 with fail
        go_quiet (first|(go_at_call 81;exact Calls.quiet_of (c8.out _ (e7.out _))))
        go_upto_region 15 with fail
        have U:=hid (O.out.drewN nq);have c9:Hid (∀q,Bl w2 ((wr.drewN nq).drewN q)):=hid λq=>h5.out nq q;have d1:(wr.drewN nq).cell? ⟨b1,o1+i,none⟩=some (.slice a1 m1 k1):=c1;have d2:(wr.drewN nq).cell? ⟨b2,o2+j,none⟩=some (.slice a2 m2 k2):=c2;generalize wr.drewN nq=W5 at U c9 d1 d2 ⊢;go_quiet (first|(go_at_call 81;exact Calls.quiet_of (c8.out _ (c9.out _))))
        have I:=hid (U.out.drewN nq);go_wp2_with (first|(at_builtin;refine wpList_append_lies _ rfl _ _ 24 rfl w2.heap.size 25 iS (.slice none 0 0) 1 24 Tryz.underlying24 hj b0 b7 b9 rfl Dd vo _ uo rfl (I.out.own.alloc _) ⟨_,0,none⟩ 1 1 [.slice a1 m1 k1] rfl rfl (qH _ _ _) (λu hu=>by simp at hu;subst hu;rfl) Dd (by unfold maxLen;omega) Oo (by have:=I.out.bel.size;simp at this ⊢;omega) _ rfl ?_;intro g3 cp3 w3 M K a6 a7)|fail)
        go_roundw
        case rel=>exact⟨i+1,j+1,_,Oo,Oo,Gg,Gg,rfl,hid ⟨_,_,j0.out h1 h2,I.out.push d9.out M K⟩⟩
        case measure=>simp[intOf];omega
     ·obtain rfl:j=nb:=Oo
      have HN:Hid (lo++[la.getD i []]++mrg (la.drop (i+1)) (lb.drop j)=mrg la lb):=hid (by
       have h:=a5.out;rw[d8.out j V,xe,a8.out i a3]at h;rw[d8.out j V,xe,List.append_assoc];exact h)
      generalize (la.getD i []).length=m1 at *;go_upto_region 12 with fail
      go_quiet (fail)
      have I:=hid (O.out.drewN nq);go_wp2_with (first|(at_builtin;refine wpList_append_lies _ rfl _ _ 24 rfl w2.heap.size 25 iS (.slice none 0 0) 1 24 Tryz.underlying24 hj b0 b7 b9 rfl Dd vo _ uo rfl (I.out.own.alloc _) ⟨_,0,none⟩ 1 1 [.slice a1 m1 k1] rfl rfl (qH _ _ _) (λu hu=>by simp at hu;subst hu;rfl) Dd (by unfold maxLen;omega) Oo (by have:=I.out.bel.size;simp at this ⊢;omega) _ rfl ?_;intro g3 cp3 w3 M K a6 a7)|fail)
      go_roundw
      case rel=>exact⟨i+1,j,_,Oo,Oo,Gg,rfl,rfl,hid ⟨_,_,HN.out,I.out.push d9.out M K⟩⟩
      case measure=>simp[intOf];omega
    ·obtain rfl:i=na:=Oo;have i1:¬((i:Int) < (i:Int)):=Oo;by_cases V:j < nb
     ·have i2:(j:Int) < (nb:Int):=Oo;have i4:¬((j:Int)=(nb:Int)):=Oo;have i5:((j:Int) == (nb:Int))=false:=by simp;omega
      have i6:¬(j=nb):=Oo;obtain⟨b2,o2,u2,ea,c2,c7⟩:=e5.out wr O.out.bel j V;subst ea;have e1:=hid c7;obtain⟨⟨⟨a2,k2,rfl,-⟩,-⟩,-⟩:=c7
      have HN:Hid (lo++[lb.getD j []]++mrg (la.drop i) (lb.drop (j+1))=mrg la lb):=hid (by
       have h:=a5.out;rw[d7.out i a3,xV,a9.out j V]at h;rw[d7.out i a3,xV,List.append_assoc];exact h)
      have i9:decide ((i:Int) < (i:Int))=false:=Ss;generalize (lb.getD j []).length=m2 at *;go_upto_region 12 with fail
      go_quiet (fail)
      go_upto_region 15 with fail
      have U:=hid (O.out.drewN nq);have d2:(wr.drewN nq).cell? ⟨b2,o2+j,none⟩=some (.slice a2 m2 k2):=c2;generalize wr.drewN nq=W5 at U d2 ⊢;go_quiet (fail)
      have I:=hid (U.out.drewN nq);go_wp2_with (first|(at_builtin;refine wpList_append_lies _ rfl _ _ 24 rfl w2.heap.size 25 iS (.slice none 0 0) 1 24 Tryz.underlying24 hj b0 b7 b9 rfl Dd vo _ uo rfl (I.out.own.alloc _) ⟨_,0,none⟩ 1 1 [.slice a2 m2 k2] rfl rfl (qH _ _ _) (λu hu=>by simp at hu;subst hu;rfl) Dd (by unfold maxLen;omega) Oo (by have:=I.out.bel.size;simp at this ⊢;omega) _ rfl ?_;intro g3 cp3 w3 M K a6 a7)|fail)
      go_roundw
      case rel=>exact⟨i,j+1,_,Oo,Oo,rfl,Gg,rfl,hid ⟨_,_,HN.out,I.out.push e1.out M K⟩⟩
      case measure=>simp[intOf];omega
     ·obtain rfl:j=nb:=Oo;have i2:¬((j:Int) < (j:Int)):=Oo
      have HN:Hid (lo=mrg la lb):=hid (by
       have h:=a5.out;rw[d7.out i a3,d8.out j V,xV,List.append_nil]at h;exact h)
      have j3:=hid O.out.rs;have j4:=hid (bt g4.out O.out.bel);have j5:Hid (∀g,vo.ownBlock=some g->W.heap.size<=g):=hid λg hg=>bQ g4.out.size (O.out.own.lt g hg).1;obtain⟨⟨ao,co,rfl,-⟩,-,-⟩:=O.out.rs;clear O a5;go_wp2_with fail
      go_ret;refine⟨_,rfl,⟨uo,?_⟩,Or.inr j5.out,j4.out⟩;rw[<-HN.out];exact j3.out
def Fz(B:Nat)(P:World->Prop)(w:World):Prop:=∀W',(∀k,B<=k->k < w.heap.size->W'.heap[k]?=w.heap[k]?)->P W'
section
variable {B B' p:Nat} {P Q:World->Prop} {w w':World}
theorem Fz.self(h:Fz B P w):P w:=h w λ_ _ _=>rfl
theorem Fz.below(h:Fz B P w)(hb:Bl w w'):Fz B P w':=λW' I=>h W' λk M K=>(I k M (bV K hb.size)).trans (hb.block k K)
theorem Fz.mono(h:Fz B P w)(hB:B'<=B):Fz B' P w:=λW' I=>h W' λk K M=>I k (bQ hB K) M
theorem Fz.imp(h:Fz B P w)(f:∀W,P W->Q W):Fz B Q w:=λW' I=>f _ (h W' I)
theorem RQ.fz(h:RQ w B v us ls):Fz B (λW=>RQ W B v us ls) w:=λ_ I=>
 ⟨qA h.own λg K=>I g (h.own.lt g K).1 (h.own.lt g K).2,h.len,λi hi=>qA (h.each i hi) λg K=>I g ((h.each i hi).lt g K).1 ((h.each i hi).lt g K).2,h.ap⟩
end
def Fx(B p:Nat)(P:World->Prop)(w:World):Prop:=∀W',(∀k,B<=k->k < w.heap.size->k≠p->W'.heap[k]?=w.heap[k]?)->P W'
structure TbC where
 v0:Value
 v1:Value
 v2:Value
 t:TbV
def qg:TbC:=⟨undef,undef,undef,qC⟩
def tcc(r:TbC):List Value:=[r.v0,r.v1,r.v2]
def ITc(W:World)(r:TbC):Prop:=IT W r.v0 r.v1 r.v2 r.t.vs r.t.rows r.t.ws
structure TR(W:World)(B:Nat)(D:List Int->Prop)(N0 N1:List Int->List Int)(f:List Int->Nat)(g0 g1:List Int->Value):Prop where
 blk:∀p,D p->W.heap[f p]?=some (.cells #[g0 p,g1 p] 173 (0,0))
 low:∀p,D p->B<=f p
 o0:∀p,D p->W.ownsRow B 3 1 (g0 p) (N0 p).length ((N0 p).map (Value.int .i64))
 o1:∀p,D p->W.ownsRow B 123 1 (g1 p) (N1 p).length ((N1 p).map λx=>.pointer (some ⟨f (p++[x]),0,none⟩))
 inj:∀p q,D p->D q->f p=f q->p=q
 a0:∀p q,D p->D q->p≠q->∀g,(g0 p).ownBlock=some g->(g0 q).ownBlock≠some g
 a1:∀p q,D p->D q->p≠q->∀g,(g1 p).ownBlock=some g->(g1 q).ownBlock≠some g
section
variable {W W' w1:World} {B:Nat} {D:List Int->Prop} {N0 N1:List Int->List Int} {f:List Int->Nat} {g0 g1:List Int->Value} {p0:List Int} {x:Int} {v':Value} {o:Obj}
theorem TR.lt(h:TR W B D N0 N1 f g0 g1)(hp:D p):f p < W.heap.size:=by
 rcases Nat.lt_or_ge (f p) W.heap.size with I|I
 ·exact I
 ·have:=h.blk p hp;rw[Array.getElem?_eq_none I]at this;cases this
theorem TR.typ(h:TR W B D N0 N1 f g0 g1)(hp:D p):∃cur,W.heap[f p]?=some (.cells cur 173 (0,0)):=⟨_,h.blk p hp⟩
theorem TR.below(h:TR W B D N0 N1 f g0 g1)(hb:Bl W W'):TR W' B D N0 N1 f g0 g1:=
 ⟨λp hp=>(hb.block _ (h.lt hp)).trans (h.blk p hp),h.low,λp hp=>qB (h.o0 p hp) hb,λp hp=>qB (h.o1 p hp) hb,h.inj,h.a0,h.a1⟩
theorem TR.c0(h:TR W B D N0 N1 f g0 g1)(hp:D p):W.cell? ⟨f p,0,none⟩=some (g0 p):=by rw[cell_of_row _ _ _ _ _ _ (h.blk p hp)];rfl
theorem TR.c1(h:TR W B D N0 N1 f g0 g1)(hp:D p):W.cell? ⟨f p,1,none⟩=some (g1 p):=by rw[cell_of_row _ _ _ _ _ _ (h.blk p hp)];rfl
theorem TR.kept0(h:TR W B D N0 N1 f g0 g1)(I:D p0)(K:(W.alloc o).grownBy w1 (g0 p0).ownBlock)(hp:D p):w1.heap[f p]?=some (.cells #[g0 p,g1 p] 173 (0,0)):=
 (zI K (h.lt hp) (own_ne (h.o0 p0 I) (h.typ hp) Dd)).trans (h.blk p hp)
theorem Vm{K:Obj}(M:((W.alloc K).alloc o).grownBy w1 (g1 p0).ownBlock)(hb:b < W.heap.size)(I:some b≠(g1 p0).ownBlock):w1.heap[b]?=W.heap[b]?:=
 (zI M (by simp;omega) I).trans (Below.heap_alloc _ _ _ hb)
def xa(g:List Int->Value)(p:List Int)(v:Value):List Int->Value:=λq=>if q=p then v else g q
theorem TR.vals(h:TR W B D N0 N1 f g0 g1)(M:D p0)(U:w1.ownsRow B 3 1 v' ((N0 p0).length+1) ((N0 p0).map (Value.int .i64)++[.int .i64 x]))(hg:(W.alloc o).grownBy w1 (g0 p0).ownBlock)(V:∀g,v'.ownBlock=some g->(g0 p0).ownBlock=some g∨W.heap.size<=g):
 TR (w1.setCell ⟨f p0,0,none⟩ v') B D (λq=>if q=p0 then N0 p0++[x] else N0 q) N1 f (xa g0 p0 v') g1:=by
 have far:∀b,b≠f p0->(w1.setCell ⟨f p0,0,none⟩ v').heap[b]?=w1.heap[b]?:=λb hb=>bE _ _ _ _ (by exact hb);have hk:=λp hp=>h.kept0 (p:=p) M hg hp;refine⟨λp hp=>?_,h.low,λp hp=>?_,λp hp=>?_,h.inj,λp q hp hq O g=>?_,h.a1⟩
 ·by_cases e:p=p0
  ·subst e;rw[bJ _ _ _ _ _ _ (hk p hp)];simp[xa]
  ·rw[far _ (λK=>e (h.inj p p0 hp M K)),hk p hp];simp[xa,e]
 ·by_cases e:p=p0
  ·subst e;simp only[xa,if_true,List.length_append,List.length_singleton,List.map_append,List.map_cons,List.map_nil];exact qA U λg I=>far g (λK=>own_ne U ⟨_,hk p hp⟩ Dd (by rw[<-K];exact I.symm))
  ·simp only[xa,if_neg e];exact qA (h.o0 p hp) λg I=>(far g (λK=>own_ne (h.o0 p hp) (h.typ M) Dd (by rw[<-K];exact I.symm))).trans (zI hg ((h.o0 p hp).lt g I).2 (λK=>h.a0 p p0 hp M e g I K.symm))
 ·exact qA (h.o1 p hp) λg I=>(far g (λK=>own_ne (h.o1 p hp) (h.typ M) Dd (by rw[<-K];exact I.symm))).trans (zI hg ((h.o1 p hp).lt g I).2 (own_ne (h.o0 p0 M) (qO (h.o1 p hp) I) Dd))
 ·unfold xa;by_cases e:p=p0
  ·subst e;rw[if_pos rfl,if_neg (λK=>O K.symm)];intro h1 h2;rcases V g h1 with h3|h3
   ·exact h.a0 p q hp hq O g h3 h2
   ·have:=((h.o0 q hq).lt g h2).2;omega
  ·rw[if_neg e];by_cases K:q=p0
   ·subst K;rw[if_pos rfl];intro h1 h2;rcases V g h2 with h3|h3
    ·exact h.a0 p q hp hq O g h1 h3
    ·have:=((h.o0 p hp).lt g h1).2;omega
   ·rw[if_neg K];exact h.a0 p q hp hq O g
theorem TR.belw(h:TR W B D N0 N1 f g0 g1)(M:D p0)(a6:¬D (p0++[x]))(hx:x∉N1 p0)(hB:B<=W.heap.size){N0':List Int->List Int}(hN:∀q,D q->N0' q=N0 q)(a7:N0' (p0++[x])=[])
 (V:w1.ownsRow B 123 1 v' ((N1 p0).length+1) (((N1 p0).map λx=>.pointer (some ⟨f (p0++[x]),0,none⟩))++[.pointer (some ⟨W.heap.size,0,none⟩)]))
 (hg:((W.alloc (.cells #[.slice none 0 0,.slice none 0 0] 173)).alloc o).grownBy w1 (g1 p0).ownBlock) (a3:∀g,v'.ownBlock=some g->(g1 p0).ownBlock=some g∨W.heap.size<=g):
 TR (w1.setCell ⟨f p0,1,none⟩ v') B (qDp D (p0++[x])) N0' (uw N1 p0 x) (λq=>if q=p0++[x] then W.heap.size else f q) (xa g0 (p0++[x]) (.slice none 0 0)) (xa (xa g1 p0 v') (p0++[x]) (.slice none 0 0)):=by
 have far:∀b,b≠f p0->(w1.setCell ⟨f p0,1,none⟩ v').heap[b]?=w1.heap[b]?:=λb hb=>bE _ _ _ _ (by exact hb);have a8:=h.lt M;have a2:∀p,D p->w1.heap[f p]?=some (.cells #[g0 p,g1 p] 173 (0,0)):=λp hp=>(Vm hg (h.lt hp) (own_ne (h.o1 p0 M) (h.typ hp) Dd)).trans (h.blk p hp)
 have a4:w1.heap[W.heap.size]?=some (.cells #[.slice none 0 0,.slice none 0 0] 173 (0,0)):=by
  rw[zI hg Ss (λe=>by have:=((h.o1 p0 M).lt _ e.symm).2;omega)];exact heap_alloc_new _ _
 have a5:p0≠p0++[x]:=λe=>Ql p0 x e.symm;have I:∀p,D p->p≠p0++[x]:=λp hp e=>a6 (e ▸ hp);refine⟨λp hp=>?_,λp hp=>?_,λp hp=>?_,λp hp=>?_,λp q hp hq e=>?_,λp q hp hq U g=>?_,λp q hp hq U g=>?_⟩
 ·rcases hp with hp|rfl
  ·simp only[xa,if_neg (I p hp)];by_cases e:p=p0
   ·subst e;rw[bJ _ _ _ _ _ _ (a2 p hp)];simp
   ·rw[far _ (λO=>e (h.inj p p0 hp M O)),a2 p hp,if_neg e]
  ·simp only[xa,if_true];rw[far _ Oo,a4]
 ·rcases hp with hp|rfl
  ·simp only[if_neg (I p hp)];exact h.low p hp
  ·simp only[if_true];exact hB
 ·rcases hp with hp|rfl
  ·simp only[xa,if_neg (I p hp),hN p hp];exact qA (h.o0 p hp) λg K=>(far g (λO=>own_ne (h.o0 p hp) (h.typ M) Dd (by rw[<-O];exact K.symm))).trans (Vm hg ((h.o0 p hp).lt g K).2 (own_ne (h.o1 p0 M) (qO (h.o0 p hp) K) Dd))
  ·simp only[xa,if_true,a7];exact bG _ _ _ _
 ·rcases hp with hp|rfl
  ·by_cases e:p=p0
   ·subst e
    have em:((N1 p++[x]).map λy=>Value.pointer (some ⟨if p++[y]=p++[x] then W.heap.size else f (p++[y]),0,none⟩))=((N1 p).map λx=>.pointer (some ⟨f (p++[x]),0,none⟩))++[.pointer (some ⟨W.heap.size,0,none⟩)]:=by
     rw[mA];congr 1
     ·refine List.map_congr_left λy hy=>?_;rw[if_neg (λe=>hx (by rw[<-(kS e).2];exact hy))]
     ·simp
    simp only[xa,if_neg a5,if_true,uw,em,List.length_append,List.length_singleton];exact qA V λg K=>far g (λO=>own_ne V ⟨_,a2 p hp⟩ Dd (by rw[<-O];exact K.symm))
   ·have em:((N1 p).map λy=>Value.pointer (some ⟨if p++[y]=p0++[x] then W.heap.size else f (p++[y]),0,none⟩))=((N1 p).map λx=>.pointer (some ⟨f (p++[x]),0,none⟩)):=
     List.map_congr_left λy hy=>by rw[if_neg (λO=>e (kS O).1)]
    simp only[xa,if_neg e,if_neg (I p hp),uw,em];exact qA (h.o1 p hp) λg K=>(far g (λO=>own_ne (h.o1 p hp) (h.typ M) Dd (by rw[<-O];exact K.symm))).trans (Vm hg ((h.o1 p hp).lt g K).2 (λO=>h.a1 p p0 hp M e g K O.symm))
  ·simp only[xa,if_true,uw,if_neg (Ql p0 x)];exact bG _ _ _ _
 ·have key:∀q,D q->f q≠W.heap.size:=λq hq e=>by have:=h.lt hq;omega
  rcases hp with hp|rfl
  ·rcases hq with hq|rfl
   ·simp only[if_neg (I p hp),if_neg (I q hq)]at e;exact h.inj p q hp hq e
   ·simp only[if_neg (I p hp),if_true]at e;exact absurd e (key p hp)
  ·rcases hq with hq|rfl
   ·simp only[if_neg (I q hq),if_true]at e;exact absurd e.symm (key q hq)
   ·rfl
 ·unfold xa;rcases hp with hp|rfl
  ·rw[if_neg (I p hp)];rcases hq with hq|rfl
   ·rw[if_neg (I q hq)];exact h.a0 p q hp hq U g
   ·rw[if_pos rfl];intro _ h2;simp[Value.ownBlock]at h2
  ·rw[if_pos rfl];intro h1;simp[Value.ownBlock]at h1
 ·unfold xa;rcases hp with hp|rfl
  ·rw[if_neg (I p hp)];rcases hq with hq|rfl
   ·rw[if_neg (I q hq)];by_cases e:p=p0
    ·subst e;rw[if_pos rfl,if_neg (λO=>U O.symm)];intro h1 h2;rcases a3 g h1 with h3|h3
     ·exact h.a1 p q hp hq U g h3 h2
     ·have:=((h.o1 q hq).lt g h2).2;omega
    ·rw[if_neg e];by_cases O:q=p0
     ·subst O;rw[if_pos rfl];intro h1 h2;rcases a3 g h2 with h3|h3
      ·exact h.a1 p q hp hq U g h1 h3
      ·have:=((h.o1 p hp).lt g h1).2;omega
     ·rw[if_neg O];exact h.a1 p q hp hq U g
   ·rw[if_pos rfl];intro _ h2;simp[Value.ownBlock]at h2
  ·rw[if_pos rfl];intro h1;simp[Value.ownBlock]at h1
theorem TR.same(h:TR W B D N0 N1 f g0 g1){N0' I:List Int->List Int}(K:∀p,D p->N0' p=N0 p)(M:∀p,D p->I p=N1 p):TR W B D N0' I f g0 g1:=
 ⟨h.blk,h.low,λp hp=>by rw[K p hp];exact h.o0 p hp,λp hp=>by rw[M p hp];exact h.o1 p hp,h.inj,h.a0,h.a1⟩
theorem x6{B j:Nat}{e:TypeId}{xs:List Value}(h:W.ownsRow B e 1 v n xs)(O:j < n):∃g cap,v=.slice (some ⟨g,0,none⟩) n cap/\W.cell? ⟨g,j,none⟩=xs[j]?:=by
 have hl:=h.1;rcases h.2 with ⟨-,U⟩|⟨g,cap,cur,rfl,I,K,V,-,-,M⟩
 ·omega
 ·refine⟨g,cap,rfl,?_⟩;rw[cell_of_row _ _ _ _ _ _ K,<-M,List.getElem?_take_of_lt Oo,Array.getElem?_toList]
end
end Go.Proofs.YtkaipapdlnojiaaGreat
