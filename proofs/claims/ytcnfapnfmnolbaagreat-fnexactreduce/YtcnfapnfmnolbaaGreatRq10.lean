import Derived.Deep.CutRange
import Derived.Test.YtcnfapnfmnolbaaGreatRq08
import Derived.Test.YtcnfapnfmnolbaaGreatRq09
set_option maxHeartbeats 40000000
set_option maxRecDepth 1000000
namespace Go.Proofs.YtcnfapnfmnolbaaGreat
open Go.RowKit
variable {p row vs:LI}{l ls:LL}{us xs:List Value}{B b i j n:Nat}{e:TypeId}{v:Value}{W W0 w w':World}
def qEv(v:Value):Prop:=∃a n c,v=.slice a n c/\n<=c
def ISc(w:World)(v:Value)(l:LI):Prop:=IS w v l/\qEv v
theorem ISc.below{l:LI}(h:ISc w v l)(hb:Bl w w'):ISc w' v l:=⟨h.1.below hb,h.2⟩
theorem qF5{s:Nat}(h:w.ownsRow B e s v n xs):qEv v:=by
 rcases h.2 with ⟨rfl,I⟩|⟨g,cap,cur,rfl,-,-,I,-⟩;exact⟨_,_,_,rfl,nR _⟩;exact⟨_,_,_,rfl,I⟩
def ISSc(w:World)(v:Value)(ls:LL):Prop:=∃a cap,v=.slice a ls.length cap/\(ls.length=0∨∃b o,a=some (az b o)/\∀j,j<ls.length->∃u,w.cell? (az b (o+j))=some u/\ISc w u (ls.getD j []))
theorem ISSc.iss(h:ISSc w v ls):ISS w v ls:=by
 obtain⟨a,cap,rfl,I⟩:=h;refine⟨a,cap,rfl,?_⟩;rcases I with I|⟨b,o,rfl,I⟩;exact Or.inl I;exact Or.inr ⟨b,o,rfl,λj K=>by obtain⟨u,M,O⟩:=I j K;exact⟨u,M,O.1⟩⟩
theorem ISSc.below(h:ISSc w v ls)(hb:Bl w w'):ISSc w' v ls:=by
 obtain⟨a,cap,rfl,I⟩:=h;refine⟨a,cap,rfl,?_⟩;rcases I with I|⟨b,o,rfl,I⟩;exact Or.inl I;exact Or.inr ⟨b,o,rfl,λj M=>by obtain⟨u,K,O⟩:=I j M;exact⟨u,(hb.cell (p:=(az b (o+j))) (bL w _ K)).trans K,O.below hb⟩⟩
structure RS(W0 W:World)(v:Value)(us:List Value)(ls:LL):Prop where
 sl:∃a cap,v=.slice a ls.length cap/\ls.length<=cap/\(ls.length=0∨∃b o,a=some (az b o)/\∀j,j<ls.length->W.cell? (az b (o+j))=some (us.getD j undef))
 len:us.length=ls.length
 each:∀i,i<ls.length->ISc W0 (us.getD i undef) (ls.getD i [])
theorem RS.issc(h:RS W0 W v us ls)(hb:Bl W0 W):ISSc W v ls:=by
 obtain⟨⟨a,cap,rfl,O,I⟩,U,M⟩:=h;refine⟨a,cap,rfl,?_⟩;rcases I with I|⟨b,o,rfl,I⟩;exact Or.inl I;exact Or.inr ⟨b,o,rfl,λj K=>⟨_,I j K,(M j K).below hb⟩⟩
theorem RS.iss(h:RS W0 W v us ls)(hb:Bl W0 W):ISS W v ls:=(h.issc hb).iss
theorem getD_take{α:Type}{l:List α}{d:α}(h:i<n):(l.take n).getD i d=l.getD i d:=by
 rw[gD,List.getElem?_take_of_lt h,<-gD]
theorem uY{α:Type}{l:List α}{d:α}:(l.drop n).getD i d=l.getD (n+i) d:=by
 rw[gD,List.getElem?_drop,<-gD]
theorem drop_cons(h:j<l.length):l.drop j=l.getD j []::l.drop (j+1):=by
 rw[gD,gE h];exact List.drop_eq_getElem_cons h
theorem K8(h:¬j<l.length):l.drop j=[]:=List.drop_eq_nil_of_le Oo
def qEw(W:World)(v v':Value):Prop:=v'=v∨∀g,v'.ownBlock=some g->W.1.size<=g
def vlF:LI->LI->Int->Int
 |[],_,_=>0
 |x::vs,r,v=>if x=v then r.getD 0 0 else vlF vs (r.drop 1) v
def qI(vs vars row:LI):LI:=vars.map (vlF vs row)
theorem yT(vs vars row:LI):(qI vs vars row).length=vars.length:=by simp[qI]
theorem qFe{v:Int}(I:j<vs.length)(h:vs.getD j 0=v):vlF (vs.drop j) (row.drop j) v=row.getD j 0:=by
 rw[xF I,vlF,if_pos h,uY,Nat.add_zero]
theorem qEO{v:Int}(I:j<vs.length)(h:¬vs.getD j 0=v):vlF (vs.drop j) (row.drop j) v=vlF (vs.drop (j+1)) (row.drop (j+1)) v:=by
 rw[xF I,vlF,if_neg h,List.drop_drop]
theorem Ub(w:World)(v0 v1 v2 vr:Value)(vs row:LI)(n1 n2:Nat)(h1:∃a c,v1=.slice a n1 c)(h2:∃a c,v2=.slice a n2 c)(h:IS w v0 vs)(hr:IS w vr row)(x:Int)(hl:vs.length<=1099511627776)(a3:row.length=vs.length):
 Cl 91 #[.agg #[v0,v1,v2],vr,ai x] w λe w'=>e=.returned (ai (vlF vs row x))/\Bl w w':=by
 obtain⟨a1,c1,rfl⟩:=h1;obtain⟨a2,c2,rfl⟩:=h2;obtain⟨a,cap,rfl,hc⟩:=h;obtain⟨ar,a6,rfl,a4⟩:=hr;obtain⟨V,I⟩:=Ex (w.alloc (.cells #[.slice a vs.length cap,.slice a1 n1 c1,.slice a2 n2 c2] 61));have K:Hh (Bl w V):=ay (by rw[I];exact(bJ _ _).alloc (nR _) _);have d0:V.cell? (az w.1.size 0)=some (.slice a vs.length cap):=by rw[I,bE _ _ _ _ rfl];rfl
 have HC:Hh (∀j,j<vs.length->∃b o,a=some (az b o)/\V.cell? (az b (o+j))=some (ai (vs.getD j 0))):=ay λj O=>by
  rcases hc with h0|⟨b,o,rfl,h⟩;omega;exact⟨b,o,rfl,(K.o.cell (bL w _ (h j O))).trans (h j O)⟩
 have a5:Hh (∀j,j<vs.length->∃b o,ar=some (az b o)/\V.cell? (az b (o+j))=some (ai (row.getD j 0))):=ay λj O=>by
  rcases a4 with h0|⟨b,o,rfl,h⟩;omega;exact⟨b,o,rfl,(K.o.cell (bL w _ (h j Oo))).trans (h j Oo)⟩
 have HH:Hh (∀j,j<vs.length->vs.getD j 0=x->vlF (vs.drop j) (row.drop j) x=row.getD j 0):=ay λj O e=>qFe O e;have HM:Hh (∀j,j<vs.length->¬vs.getD j 0=x->vlF (vs.drop j) (row.drop j) x=vlF (vs.drop (j+1)) (row.drop (j+1)) x):=ay λj O e=>qEO O e;have HE:Hh (vlF (vs.drop vs.length) (row.drop vs.length) x=0):=ay (by rw[List.drop_length];rfl);rw[a3];clear hc a4 a3;obtain⟨n,hn⟩:=Ex vs.length;rw[<-hn]at HC a5 HH HM HE hl d0 I ⊢;clear hn;go_enter Tryz.func91,Tryz.ntmps91;go_upto_region 1 with fail;rw[<-I];clear I;go_wp2_with fail;go_loop [12] (λt=>∃j:Nat,j<=n/\t=ai j/\Hh (vlF (vs.drop j) (row.drop j) x=vlF vs row x)) (λt=>n-(intOf t).toNat);exact⟨0,nZ _,rfl,ay rfl⟩;obtain⟨j,O,rfl,U⟩:=hrel;by_cases M:j<n
 ·have i1:(j:Int)<(n:Int):=Oo;obtain⟨b,o,ea,e1⟩:=HC.o j M;subst ea;by_cases hx:vs.getD j 0=x
  ·obtain⟨b2,o2,ea,e2⟩:=a5.o j M;subst ea;have hf:=ay ((HH.o j M hx).symm.trans U.o);rw[hx]at e1;generalize row.getD j 0=y at *;clear hx;go_wp2;go_ret;exact⟨qR hf.o,K.o⟩
  have hf:=ay ((HM.o j M hx).symm.trans U.o);generalize vs.getD j 0=y at *;go_wp2;go_round;exact⟨j+1,Oo,Gg,hf⟩;exact Im
 obtain rfl:j=n:=Oo;have i1:¬((j:Int)<(j:Int)):=Oo;have hf:=ay (HE.o.symm.trans U.o);go_wp2;go_ret;exact⟨qR hf.o,K.o⟩
theorem kL(w:World)(v0 v1 v2 vr vv:Value)(vs row vars:LI)(n1 n2:Nat)(h1:∃a c,v1=.slice a n1 c)(h2:∃a c,v2=.slice a n2 c)(h:IS w v0 vs)(hr:IS w vr row)(hv:IS w vv vars)(hl:vs.length<=1099511627776)(a5:row.length=vs.length)(b7:vars.length<=1000):
 Cl 63 #[.agg #[v0,v1,v2],vr,vv] w λe w'=>∃v,e=.returned v/\w'.ownsRow w.1.size 3 1 v (qI vs vars row).length ((qI vs vars row).map ai)/\Bl w w':=by
 obtain⟨i0,hi,b8,b9,c7⟩:=info_parts Tryz.infoInt;have KV:Hh (∀W x,Bl w W->Cl 91 #[.agg #[v0,v1,v2],vr,ai x] W λe w'=>e=.returned (ai (vlF vs row x))/\Bl W w'):=ay λW x hW=>Ub W v0 v1 v2 vr vs row n1 n2 h1 h2 (h.below hW) (hr.below hW) x hl a5;obtain⟨a1,c1,rfl⟩:=h1;obtain⟨a2,c2,rfl⟩:=h2;obtain⟨a,cap,rfl,-⟩:=h;obtain⟨ar,d4,rfl,-⟩:=hr;obtain⟨av,d5,rfl,a6⟩:=hv;obtain⟨O,K⟩:=Ex (w.alloc (.cells #[.slice a vs.length cap,.slice a1 n1 c1,.slice a2 n2 c2] 61));have a3:Bl w O:=by rw[K];exact(bJ _ _).alloc (nR _) _
 have a7:Hh (O.1[w.1.size]?=some (.cells #[.slice a vs.length cap,.slice a1 n1 c1,.slice a2 n2 c2] 61 (0,0))):=ay (by rw[K];exact heap_alloc_new _ _);have c8:O.1.size=w.1.size+1:=by rw[K];simp
 have U:Hh (Bl w (O.alloc (.cells #[] 3))/\(O.alloc (.cells #[] 3)).ownsRow w.1.size 3 1 (.slice (some (az (w.1.size+1) 0)) 0 0) 0 []/\(O.alloc (.cells #[] 3)).1[w.1.size]?=some (.cells #[.slice a vs.length cap,.slice a1 n1 c1,.slice a2 n2 c2] 61 (0,0))):=ay (by
  refine⟨a3.alloc a3.size _,?_,(Below.heap_alloc _ _ _ Oo).trans a7.o⟩;have:=oM O (e:=3) (size:=1) (base:=w.1.size) #[] 0 Oo Dd rfl;rw[c8]at this;exact this)
 have HC:Hh (∀W,Bl w W->∀j,j<vars.length->∃b o,av=some (az b o)/\W.cell? (az b (o+j))=some (ai (vars.getD j 0))):=ay λW hW j hj=>by
  rcases a6 with h0|⟨b,o,rfl,h⟩;omega;exact⟨b,o,rfl,(hW.cell (bL w _ (h j hj))).trans (h j hj)⟩
 have HP:Hh (∀j,j<vars.length->(qI vs (vars.take (j+1)) row).map ai=(qI vs (vars.take j) row).map ai++[ai (vlF vs row (vars.getD j 0))]):=ay λj hj=>by
  unfold qI;rw[tA,gE hj,gD,gE hj,mA,mA];rfl
 have a8:Hh ((qI vs (vars.take 0) row).map ai=[]):=ay rfl;have a9:Hh (qI vs (vars.take vars.length) row=qI vs vars row):=ay (by rw[tL]);rw[yT];clear a6 a3 a7 a5 hl;obtain⟨n,hn⟩:=Ex vars.length;rw[<-hn]at HC HP a9 b7 ⊢;clear hn;generalize vs.length=nv at *;generalize row.length=nr at *;go_enter Tryz.func63,Tryz.ntmps63;go_upto_region 1 with fail;rw[<-K];clear K;go_wp2_with fail;generalize O.alloc (.cells #[] 3)=W2 at *;go_loopw [7,13] (λu t wr=>∃(j:Nat) (vo:Value),j<=n/\t=ai j/\vo=u/\Hh (Bl w wr/\wr.ownsRow w.1.size 3 1 vo j ((qI vs (vars.take j) row).map ai)/\wr.1[w.1.size]?=some (.cells #[.slice a nv cap,.slice a1 n1 c1,.slice a2 n2 c2] 61 (0,0)))) (λ_ t _=>n-(intOf t).toNat);exact⟨0,_,nZ _,rfl,rfl,ay ⟨U.o.1,by rw[a8.o];exact U.o.2.1,U.o.2.2⟩⟩;clear U a8;obtain⟨j,vo,hj,rfl,rfl,M⟩:=hrel;by_cases b0:j<n
 ·have i1:(j:Int)<(n:Int):=Oo;obtain⟨b,o,ea,e1⟩:=HC.o wr M.o.1 j b0;subst ea;have d0:wr.cell? (az w.1.size 0)=some (.slice a nv cap):=by rw[cell_of_row _ _ _ _ _ _ M.o.2.2];rfl
  have d1:wr.cell? (az w.1.size 1)=some (.slice a1 n1 c1):=by rw[cell_of_row _ _ _ _ _ _ M.o.2.2];rfl
  have d2:wr.cell? (az w.1.size 2)=some (.slice a2 n2 c2):=by rw[cell_of_row _ _ _ _ _ _ M.o.2.2];rfl
  have b1:=ay (KV.o wr (vars.getD j 0) M.o.1);have c9:=ay (HP.o j b0);generalize vlF vs row (vars.getD j 0)=y at *;generalize vars.getD j 0=x at *;go_wp2_with fail;refine b1.o.mono ?_;rintro e w3 ⟨rfl,V⟩;have HN:Hh (Bl w w3/\w3.ownsRow w.1.size 3 1 vo j ((qI vs (vars.take j) row).map ai)/\w3.1[w.1.size]?=some (.cells #[.slice a nv cap,.slice a1 n1 c1,.slice a2 n2 c2] 61 (0,0))):=ay ⟨bt M.o.1 V,qB M.o.2.1 V,(V.block _ (bL wr _ d0)).trans M.o.2.2⟩;clear M V b1 d0 d1 d2 e1;have d3:=HN.o.1.size;go_wp2_with (first|(at_builtin;refine wpList_append_lies _ rfl _ _ 24 rfl w.1.size 3 i0 (ai 0) 1 8 Tryz.underlying24 hi b8 b9 c7 rfl Dd vo _ _ rfl (HN.o.2.1.alloc _) (az _ 0) 1 1 [ai y] rfl rfl (qH _ _ _) (λu hu=>by simp at hu;subst hu;rfl) Dd Um Oo Sy _ rfl ?_;intro g3 cp3 w4 a4 I d6 d7)|fail);go_roundw
  case rel=>
   refine⟨j+1,_,Oo,Gg,rfl,ay ⟨(HN.o.1.alloc d3 _).grown I Sy (λq hq=>(HN.o.2.1.lt q hq).1),by rw[c9.o];exact a4,?_⟩⟩;refine((I.block _ (by simp;have:=bL w3 (az w.1.size 0) (by rw[cell_of_row _ _ _ _ _ _ HN.o.2.2];rfl);simp at this;omega) (own_ne HN.o.2.1 ⟨_,HN.o.2.2⟩ Dd)).trans (Below.heap_alloc _ _ _ ?_)).trans HN.o.2.2;exact bL w3 (az w.1.size 0) (by rw[cell_of_row _ _ _ _ _ _ HN.o.2.2];rfl)
  case measure=>simp[intOf];omega
 obtain rfl:j=n:=Oo;have i1:¬((j:Int)<(j:Int)):=Oo;go_wp2_with fail;go_ret;have h2:=M.o.2.1;rw[a9.o]at h2;exact⟨_,rfl,h2,M.o.1⟩
theorem zR{w3:World}{o:Obj}(K:(W.alloc o).grownBy w3 v.ownBlock)(hb:b<W.1.size)(I:some b≠v.ownBlock):w3.1[b]?=W.1[b]?:=
 (K.block b Sy I).trans (Below.heap_alloc _ _ _ hb)
structure RQ(W:World)(B:Nat)(v:Value)(us:List Value)(ls:LL):Prop where
 own:W.ownsRow B 24 1 v ls.length us
 len:us.length=ls.length
 each:∀i,i<ls.length->W.ownsRow B 3 1 (us.getD i undef) (ls.getD i []).length ((ls.getD i []).map ai)
 ap:∀i j,i<j->j<ls.length->∀g,(us.getD i undef).ownBlock=some g->(us.getD j undef).ownBlock≠some g
section
variable {W W' w3:World} {B B':Nat} {v v' u:Value} {us:List Value} {ls:LL} {l:LI} {o:Obj}
theorem RQ.below(h:RQ W B v us ls)(hb:Bl W W'):RQ W' B v us ls:=⟨qB h.own hb,h.len,λi hi=>qB (h.each i hi) hb,h.ap⟩
theorem RQ.base(h:RQ W B v us ls)(hB:B'<=B):RQ W B' v us ls:=⟨qF h.own hB,h.len,λi hi=>qF (h.each i hi) hB,h.ap⟩
theorem RQ.step(h:RQ W B v us ls)(hu:W.ownsRow B 3 1 u l.length (l.map ai))(hn:∀i,i<ls.length->∀g,(us.getD i undef).ownBlock=some g->u.ownBlock≠some g)
 (I:w3.ownsRow B 24 1 v' (ls.length+1) (us++[u])) (hg:(W.alloc o).grownBy w3 v.ownBlock):RQ w3 B v' (us++[u]) (ls++[l]):=by
 have hint:∀{x:Value} {k:Nat} {xs:List Value},W.ownsRow B 3 1 x k xs->w3.ownsRow B 3 1 x k xs:=λM=>
  qC M λg K=>zR hg (M.lt g K).2 (own_ne h.own (qN M K) Dd)
 have hl:=h.len;have O:∀i,i<ls.length->(us++[u]).getD i undef=us.getD i undef:=λi hi=>by rw[gD,aL Oo,<-gD]
 have V:(us++[u]).getD ls.length undef=u:=by rw[gD,bQ Oo,show ls.length-us.length=0 by omega];rfl
 have f1:∀i,i<ls.length->(ls++[l]).getD i []=ls.getD i []:=λi hi=>by rw[gD,aL hi,<-gD]
 have f2:(ls++[l]).getD ls.length []=l:=by rw[gD,bQ (nR _),Nat.sub_self];rfl
 refine⟨by rw[lA];exact I,by simp[hl],λi hi=>?_,λi j U hj g=>?_⟩
 ·rw[lA,lS]at hi;by_cases e:i<ls.length;rw[O i e,f1 i e];exact hint (h.each i e);obtain rfl:i=ls.length:=Oo;rw[V,f2];exact hint hu
 rw[lA,lS]at hj;rw[O i Oo];by_cases e:j<ls.length;rw[O j e];exact h.ap i j U e g;obtain rfl:j=ls.length:=Oo;rw[V];exact hn i Oo g
theorem RQ.get(h:RQ W B v us ls)(hi:i<ls.length):∃g cap,v=.slice (some (az g 0)) ls.length cap/\ls.length<=cap/\W.cell? (az g i)=some (us.getD i undef):=by
 rcases h.own.2 with ⟨-,U⟩|⟨g,cap,cur,rfl,I,K,M,-,-,O⟩;omega;refine⟨g,cap,rfl,M,?_⟩;have hlen:=h.len;rw[cell_of_row _ _ _ _ _ _ K,gD,gE Oo,Option.getD_some,<-gE (by omega:i<us.length),<-O,List.getElem?_take_of_lt Oo,Array.getElem?_toList]
theorem RQ.rs(h:RQ W B v us ls):RS W W v us ls:=by
 refine⟨?_,h.len,λi hi=>⟨qS (h.each i hi),qF5 (h.each i hi)⟩⟩;rcases h.own.2 with ⟨rfl,I⟩|⟨g,cap,cur,rfl,O,V,I,-⟩;exact⟨none,0,by rw[I],Oo,Or.inl I⟩;refine⟨_,cap,rfl,I,Or.inr ⟨g,0,rfl,λj U=>?_⟩⟩;obtain⟨g',M,e,-,K⟩:=h.get U;simp only[Value.slice.injEq,Option.some.injEq,Addr.mk.injEq]at e;obtain⟨⟨rfl,-⟩,-⟩:=e;rw[Nat.zero_add];exact K
end
def atP(row places:LI):LI:=places.map λp=>row.getD p.toNat 0
theorem qBD(row places:LI):(atP row places).length=places.length:=by simp[atP]
theorem yZ(w:World)(vr vp:Value)(row places:LI)(hr:IS w vr row)(hp:IS w vp places)(b9:places.length<=1000)(a4:∀p∈places,0<=p/\p<row.length):
 Cl 77 #[vr,vp] w λe w'=>∃v,e=.returned v/\w'.ownsRow w.1.size 3 1 v (atP row places).length ((atP row places).map ai)/\Bl w w':=by
 obtain⟨i0,hi,a5,a6,a7⟩:=info_parts Tryz.infoInt;obtain⟨ar,c9,rfl,a8⟩:=hr;obtain⟨ap,d0,rfl,a9⟩:=hp;have HC:Hh (∀W,Bl w W->∀j,j<places.length->∃(b o q br oo:Nat),ap=some (az b o)/\ar=some (az br oo)/\q<row.length/\W.cell? (az b (o+j))=some (ai (q:Int))/\W.cell? (az br (oo+q))=some (ai (row.getD q 0))/\places.getD j 0=(q:Int)):=ay λW hW j M=>by
  have hm:places.getD j 0∈places:=by rw[gD,gE M];exact gM _
  obtain⟨h0,h1⟩:=a4 _ hm;have e:places.getD j 0=((places.getD j 0).toNat:Int):=Oo;rcases a9 with h2|⟨b,o,rfl,h2⟩;omega;rcases a8 with h3|⟨br,oo,rfl,h3⟩;omega;refine⟨b,o,(places.getD j 0).toNat,br,oo,rfl,rfl,Oo,?_,?_,e⟩;rw[<-e];exact(hW.cell (bL w _ (h2 j M))).trans (h2 j M);exact(hW.cell (bL w _ (h3 _ Oo))).trans (h3 _ Oo)
 have HP:Hh (∀j q,j<places.length->places.getD j 0=((q:Nat):Int)->(atP row (places.take (j+1))).map ai=(atP row (places.take j)).map ai++[ai (row.getD q 0)]):=ay λj q M e=>by
  unfold atP;rw[tA,gE M,mA,mA];rw[gD,gE M]at e;simp only[Option.getD_some]at e;simp[e]
 have b0:Hh ((atP row (places.take 0)).map ai=[]):=ay rfl;have b1:Hh (atP row (places.take places.length)=atP row places):=ay (by rw[tL]);rw[qBD];clear a8 a9 a4;obtain⟨n,hn⟩:=Ex places.length;obtain⟨nr,b7⟩:=Ex row.length;rw[<-hn]at HC HP b1 b9 ⊢;rw[<-b7]at HC ⊢;clear hn b7;go_enter Tryz.func77,Tryz.ntmps77;go_wp2_with (at_make;refine wpList_make_own _ rfl _ _ 24 rfl w.1.size 3 i0 (ai 0) 1 Tryz.underlying24 hi a5 a6 _ _ _ n rfl rfl rfl ?b2 ?b3 (nR _) ?_)
 case b2=>rw[a7];omega
 case b3=>unfold maxLen;omega
 intro w0 K I;have U:Hh (w0.ownsRow w.1.size 3 1 (.slice (some (az w.1.size 0)) 0 n) 0 []/\Bl w w0):=ay ⟨K,(bJ _ _).grown I (nR _) (λj M=>by cases M)⟩;clear I K;go_wp2_with fail;go_loopw [5,13] (λu t wr=>∃(j:Nat) (vo:Value),j<=n/\t=ai j/\vo=u/\Hh (wr.ownsRow w.1.size 3 1 vo j ((atP row (places.take j)).map ai)/\Bl w wr)) (λ_ t _=>n-(intOf t).toNat);exact⟨0,_,nZ _,rfl,rfl,ay ⟨by rw[b0.o];exact U.o.1,U.o.2⟩⟩;clear U b0;obtain⟨j,vo,M,rfl,rfl,V⟩:=hrel;by_cases b8:j<n
 ·have i1:(j:Int)<(n:Int):=Oo;obtain⟨b,o,q,br,oo,ea,eb,hq,e1,e2,e3⟩:=HC.o wr V.o.2 j b8;subst ea eb;have i2:(q:Int)<(nr:Int):=Oo;have c7:=ay (HP.o j q b8 e3);have c8:=V.o.2.size;clear e3;generalize row.getD q 0=y at *;go_wp2_with (first|(at_builtin;refine wpList_append_lies _ rfl _ _ 24 rfl w.1.size 3 i0 (ai 0) 1 8 Tryz.underlying24 hi a5 a6 a7 rfl Dd vo _ _ rfl (V.o.1.alloc _) (az _ 0) 1 1 [ai y] rfl rfl (qH _ _ _) (λu hu=>by simp at hu;subst hu;rfl) Dd Um Oo Sy _ rfl ?_;intro g3 cp3 w4 a3 O d1 d2)|fail);go_roundw;exact⟨j+1,_,Oo,Gg,rfl,ay ⟨by rw[c7.o];exact a3,(V.o.2.alloc c8 _).grown O Sy (λq hq=>(V.o.1.lt q hq).1)⟩⟩;exact Im
 obtain rfl:j=n:=Oo;have i1:¬((j:Int)<(j:Int)):=Oo;go_wp2_with fail;go_ret;have h2:=V.o.1;rw[b1.o]at h2;exact⟨_,rfl,h2,V.o.2⟩
structure TR(W:World)(B:Nat)(D:LI->Prop)(N0 N1:LI->LI)(f:LI->Nat)(g0 g1:LI->Value):Prop where
 blk:∀p,D p->W.1[f p]?=some (.cells #[g0 p,g1 p] 149 (0,0))
 low:∀p,D p->B<=f p
 o0:∀p,D p->W.ownsRow B 3 1 (g0 p) (N0 p).length ((N0 p).map ai)
 o1:∀p,D p->W.ownsRow B 111 1 (g1 p) (N1 p).length ((N1 p).map λx=>.pointer (some (az (f (p++[x])) 0)))
 inj:∀p q,D p->D q->f p=f q->p=q
 a0:∀p q,D p->D q->p≠q->∀g,(g0 p).ownBlock=some g->(g0 q).ownBlock≠some g
 a1:∀p q,D p->D q->p≠q->∀g,(g1 p).ownBlock=some g->(g1 q).ownBlock≠some g
section
variable {W W' w1:World} {B:Nat} {D:LI->Prop} {N0 N1:LI->LI} {f:LI->Nat} {g0 g1:LI->Value} {p0:LI} {x:Int} {v':Value} {o:Obj}
theorem TR.lt(h:TR W B D N0 N1 f g0 g1)(K:D p):f p<W.1.size:=by
 rcases Nat.lt_or_ge (f p) W.1.size with I|I;exact I;have:=h.blk p K;rw[Array.getElem?_eq_none I]at this;cases this
theorem TR.typ(h:TR W B D N0 N1 f g0 g1)(I:D p):∃cur,W.1[f p]?=some (.cells cur 149 (0,0)):=⟨_,h.blk p I⟩
theorem TR.below(h:TR W B D N0 N1 f g0 g1)(hb:Bl W W'):TR W' B D N0 N1 f g0 g1:=
 ⟨λp I=>(hb.block _ (h.lt I)).trans (h.blk p I),h.low,λp I=>qB (h.o0 p I) hb,λp I=>qB (h.o1 p I) hb,h.inj,h.a0,h.a1⟩
theorem TR.c0(h:TR W B D N0 N1 f g0 g1)(I:D p):W.cell? (az (f p) 0)=some (g0 p):=by rw[cell_of_row _ _ _ _ _ _ (h.blk p I)];rfl
theorem TR.c1(h:TR W B D N0 N1 f g0 g1)(I:D p):W.cell? (az (f p) 1)=some (g1 p):=by rw[cell_of_row _ _ _ _ _ _ (h.blk p I)];rfl
theorem TR.kept0(h:TR W B D N0 N1 f g0 g1)(I:D p0)(M:(W.alloc o).grownBy w1 (g0 p0).ownBlock)(K:D p):w1.1[f p]?=some (.cells #[g0 p,g1 p] 149 (0,0)):=
 (zR M (h.lt K) (own_ne (h.o0 p0 I) (h.typ K) Dd)).trans (h.blk p K)
theorem Uk{K:Obj}(M:((W.alloc K).alloc o).grownBy w1 (g1 p0).ownBlock)(hb:b<W.1.size)(I:some b≠(g1 p0).ownBlock):w1.1[b]?=W.1[b]?:=
 (zR M Sy I).trans (Below.heap_alloc _ _ _ hb)
def x6(g:LI->Value)(p:LI)(v:Value):LI->Value:=λq=>if q=p then v else g q
theorem TR.vals(h:TR W B D N0 N1 f g0 g1)(O:D p0)(V:w1.ownsRow B 3 1 v' ((N0 p0).length+1) ((N0 p0).map ai++[ai x]))(hg:(W.alloc o).grownBy w1 (g0 p0).ownBlock)(a3:∀g,v'.ownBlock=some g->(g0 p0).ownBlock=some g∨W.1.size<=g):
 TR (w1.setCell (az (f p0) 0) v') B D (λq=>if q=p0 then N0 p0++[x] else N0 q) N1 f (x6 g0 p0 v') g1:=by
 have far:∀b,b≠f p0->(w1.setCell (az (f p0) 0) v').1[b]?=w1.1[b]?:=λb hb=>bD _ _ _ _ (by exact hb);have hk:=λp I=>h.kept0 (p:=p) O hg I;refine⟨λp I=>?_,h.low,λp I=>?_,λp I=>?_,h.inj,λp q I hq U g=>?_,h.a1⟩
 ·by_cases e:p=p0;subst e;rw[bI _ _ _ _ _ _ (hk p I)];simp[x6];rw[far _ (λM=>e (h.inj p p0 I O M)),hk p I];simp[x6,e]
 ·by_cases e:p=p0;subst e;simp only[x6,if_true,List.length_append,List.length_singleton,List.map_append,List.map_cons,List.map_nil];exact qC V λg K=>far g (λM=>own_ne V ⟨_,hk p I⟩ Dd (by rw[<-M];exact K.symm));simp only[x6,if_neg e];exact qC (h.o0 p I) λg K=>(far g (λM=>own_ne (h.o0 p I) (h.typ O) Dd (by rw[<-M];exact K.symm))).trans (zR hg ((h.o0 p I).lt g K).2 (λM=>h.a0 p p0 I O e g K M.symm))
 exact qC (h.o1 p I) λg K=>(far g (λM=>own_ne (h.o1 p I) (h.typ O) Dd (by rw[<-M];exact K.symm))).trans (zR hg ((h.o1 p I).lt g K).2 (own_ne (h.o0 p0 O) (qN (h.o1 p I) K) Dd));unfold x6;by_cases e:p=p0
 ·subst e;rw[if_pos rfl,if_neg (λM=>U M.symm)];intro h1 h2;rcases a3 g h1 with h3|h3;exact h.a0 p q I hq U g h3 h2;have:=((h.o0 q hq).lt g h2).2;omega
 rw[if_neg e];by_cases M:q=p0
 ·subst M;rw[if_pos rfl];intro h1 h2;rcases a3 g h2 with h3|h3;exact h.a0 p q I hq U g h1 h3;have:=((h.o0 p I).lt g h1).2;omega
 rw[if_neg M];exact h.a0 p q I hq U g
theorem TR.belw(h:TR W B D N0 N1 f g0 g1)(O:D p0)(a8:¬D (p0++[x]))(hx:x∉N1 p0)(hB:B<=W.1.size){N0':LI->LI}(hN:∀q,D q->N0' q=N0 q)(a9:N0' (p0++[x])=[])
 (a3:w1.ownsRow B 111 1 v' ((N1 p0).length+1) (((N1 p0).map λx=>.pointer (some (az (f (p0++[x])) 0)))++[.pointer (some (az W.1.size 0))]))
 (hg:((W.alloc (.cells #[sn,sn] 149)).alloc o).grownBy w1 (g1 p0).ownBlock) (a5:∀g,v'.ownBlock=some g->(g1 p0).ownBlock=some g∨W.1.size<=g):
 TR (w1.setCell (az (f p0) 1) v') B (qEl D (p0++[x])) N0' (jY N1 p0 x) (λq=>if q=p0++[x] then W.1.size else f q) (x6 g0 (p0++[x]) sn) (x6 (x6 g1 p0 v') (p0++[x]) sn):=by
 have far:∀b,b≠f p0->(w1.setCell (az (f p0) 1) v').1[b]?=w1.1[b]?:=λb hb=>bD _ _ _ _ (by exact hb);have b0:=h.lt O;have a4:∀p,D p->w1.1[f p]?=some (.cells #[g0 p,g1 p] 149 (0,0)):=λp I=>(Uk hg (h.lt I) (own_ne (h.o1 p0 O) (h.typ I) Dd)).trans (h.blk p I);have a6:w1.1[W.1.size]?=some (.cells #[sn,sn] 149 (0,0)):=by
  rw[zR hg Ss (λe=>by have:=((h.o1 p0 O).lt _ e.symm).2;omega)];exact heap_alloc_new _ _
 have a7:p0≠p0++[x]:=λe=>Ze p0 x e.symm;have K:∀p,D p->p≠p0++[x]:=λp I e=>a8 (e ▸ I);refine⟨λp I=>?_,λp I=>?_,λp I=>?_,λp I=>?_,λp q I hq e=>?_,λp q I hq V g=>?_,λp q I hq V g=>?_⟩
 ·rcases I with I|rfl
  ·simp only[x6,if_neg (K p I)];by_cases e:p=p0;subst e;rw[bI _ _ _ _ _ _ (a4 p I)];simp;rw[far _ (λU=>e (h.inj p p0 I O U)),a4 p I,if_neg e]
  simp only[x6,if_true];rw[far _ Oo,a6]
 ·rcases I with I|rfl;simp only[if_neg (K p I)];exact h.low p I;simp only[if_true];exact hB
 ·rcases I with I|rfl;simp only[x6,if_neg (K p I),hN p I];exact qC (h.o0 p I) λg M=>(far g (λU=>own_ne (h.o0 p I) (h.typ O) Dd (by rw[<-U];exact M.symm))).trans (Uk hg ((h.o0 p I).lt g M).2 (own_ne (h.o1 p0 O) (qN (h.o0 p I) M) Dd));simp only[x6,if_true,a9];exact oN _ _ _ _
 ·rcases I with I|rfl
  ·by_cases e:p=p0
   ·subst e;have em:((N1 p++[x]).map λy=>Value.pointer (some (az (if p++[y]=p++[x] then W.1.size else f (p++[y])) 0)))=((N1 p).map λx=>.pointer (some (az (f (p++[x])) 0)))++[.pointer (some (az W.1.size 0))]:=by
     rw[mA];congr 1;refine List.map_congr_left λy hy=>?_;rw[if_neg (λe=>hx (by rw[<-(QI e).2];exact hy))];simp
    simp only[x6,if_neg a7,if_true,jY,em,List.length_append,List.length_singleton];exact qC a3 λg M=>far g (λU=>own_ne a3 ⟨_,a4 p I⟩ Dd (by rw[<-U];exact M.symm))
   have em:((N1 p).map λy=>Value.pointer (some (az (if p++[y]=p0++[x] then W.1.size else f (p++[y])) 0)))=((N1 p).map λx=>.pointer (some (az (f (p++[x])) 0))):=
    List.map_congr_left λy hy=>by rw[if_neg (λU=>e (QI U).1)]
   simp only[x6,if_neg e,if_neg (K p I),jY,em];exact qC (h.o1 p I) λg M=>(far g (λU=>own_ne (h.o1 p I) (h.typ O) Dd (by rw[<-U];exact M.symm))).trans (Uk hg ((h.o1 p I).lt g M).2 (λU=>h.a1 p p0 I O e g M U.symm))
  simp only[x6,if_true,jY,if_neg (Ze p0 x)];exact oN _ _ _ _
 ·have key:∀q,D q->f q≠W.1.size:=λq hq e=>by have:=h.lt hq;omega
  rcases I with I|rfl
  ·rcases hq with hq|rfl;simp only[if_neg (K p I),if_neg (K q hq)]at e;exact h.inj p q I hq e;simp only[if_neg (K p I),if_true]at e;exact absurd e (key p I)
  rcases hq with hq|rfl;simp only[if_neg (K q hq),if_true]at e;exact absurd e.symm (key q hq);rfl
 ·unfold x6;rcases I with I|rfl
  ·rw[if_neg (K p I)];rcases hq with hq|rfl;rw[if_neg (K q hq)];exact h.a0 p q I hq V g;rw[if_pos rfl];intro _ h2;simp[Value.ownBlock]at h2
  rw[if_pos rfl];intro h1;simp[Value.ownBlock]at h1
 unfold x6;rcases I with I|rfl
 ·rw[if_neg (K p I)];rcases hq with hq|rfl
  ·rw[if_neg (K q hq)];by_cases e:p=p0
   ·subst e;rw[if_pos rfl,if_neg (λU=>V U.symm)];intro h1 h2;rcases a5 g h1 with h3|h3;exact h.a1 p q I hq V g h3 h2;have:=((h.o1 q hq).lt g h2).2;omega
   rw[if_neg e];by_cases U:q=p0
   ·subst U;rw[if_pos rfl];intro h1 h2;rcases a5 g h2 with h3|h3;exact h.a1 p q I hq V g h1 h3;have:=((h.o1 p I).lt g h1).2;omega
   rw[if_neg U];exact h.a1 p q I hq V g
  rw[if_pos rfl];intro _ h2;simp[Value.ownBlock]at h2
 rw[if_pos rfl];intro h1;simp[Value.ownBlock]at h1
theorem TR.same(h:TR W B D N0 N1 f g0 g1){N0' I:LI->LI}(M:∀p,D p->N0' p=N0 p)(O:∀p,D p->I p=N1 p):TR W B D N0' I f g0 g1:=
 ⟨h.blk,h.low,λp K=>by rw[M p K];exact h.o0 p K,λp K=>by rw[O p K];exact h.o1 p K,h.inj,h.a0,h.a1⟩
theorem xN(h:W.ownsRow B e 1 v n xs)(O:j<n):∃g cap,v=.slice (some (az g 0)) n cap/\W.cell? (az g j)=xs[j]?:=by
 have hl:=h.1;rcases h.2 with ⟨-,U⟩|⟨g,cap,cur,rfl,I,K,V,-,-,M⟩;omega;refine⟨g,cap,rfl,?_⟩;rw[cell_of_row _ _ _ _ _ _ K,<-M,List.getElem?_take_of_lt Oo,Array.getElem?_toList]
end
end Go.Proofs.YtcnfapnfmnolbaaGreat
