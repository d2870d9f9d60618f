import Derived.Lib.ItoaNum
import Derived.Lib.Join
import Derived.Maps.OwnOps
import Derived.Maps.OwnSet
import Derived.Maps.Views
import Derived.StringKeys
import Derived.Test.YtkaipapdlnojiaaGreatWq25
set_option maxHeartbeats 40000000
set_option maxRecDepth 1000000
namespace Go.Proofs.YtkaipapdlnojiaaGreat
open Go.RowKit Go.Maps
variable {b:Bool}{l ls:List (List Int)}{row vs:List Int}{us xs:List Value}{B g i j k m n p s:Nat}{o:Obj}{e:TypeId}{I u v v1 v2:Value}{W W' W0 w w':World}
theorem FndA.uniq{K:Nat}{O:Bool}(h:FndA ls row k b)(M:FndA ls row K O):k=K/\b=O:=by
 have e:k=K:=by
  rcases Nat.lt_trichotomy k K with I|I|I
  ·exact absurd (M.2.1 k I) (h.2.2.1 (bV I M.1))
  ·exact I
  ·exact absurd (h.2.1 K I) (M.2.2.1 (bV I h.1))
 subst e;refine⟨rfl,?_⟩;have:=h.2.2.2.trans M.2.2.2.symm;cases b <;> cases O <;> simp_all
def xM(ls:List (List Int))(row:List Int):Nat:=ls.findIdx λr=>decide (¬cmpL r row < 0)
def xX(ls:List (List Int))(row:List Int):Bool:=decide (xM ls row < ls.length/\cmpL (ls.getD (xM ls row) []) row=0)
theorem qBw(ls:List (List Int))(row:List Int):FndA ls row (xM ls row) (xX ls row):=by
 refine⟨List.findIdx_le_length,λi hi=>?_,λI=>?_,by unfold xX;rw[decide_eq_true_iff]⟩
 ·have hl:i < ls.length:=bV hi List.findIdx_le_length;have:=List.not_of_lt_findIdx hi;rw[gD,bC hl,Option.getD_some];simpa using this
 ·have:=List.findIdx_getElem (w:=I);rw[gD,bC I,Option.getD_some];simpa[xM]using this
def Srt(ls:List (List Int)):Prop:=ls.Pairwise λa b=>cmpL a b < 0
theorem Srt.at(h:Srt ls)(I:i < j)(K:j < ls.length):cmpL (ls.getD i []) (ls.getD j []) < 0:=by
 have:=List.pairwise_iff_getElem.1 h i j Oo K I;rw[gD,bC (show i < ls.length by omega),gD,bC K];exact this
theorem Srt.put(h:Srt ls)(hf:FndA ls row k b):Srt (qX ls k b row):=by
 obtain⟨f1,f2,f3,f4⟩:=hf
 have K:∀x∈ls.take k,cmpL x row < 0:=λx I=>by
  obtain⟨i,hi,rfl⟩:=gO I;rw[bZ]at hi;have:=f2 i Oo;rw[gD,bC (show i < ls.length by omega),Option.getD_some]at this;rw[List.getElem_take];exact this
 have M:∀x∈ls.drop (xd k b),cmpL row x < 0:=λx I=>by
  obtain⟨i,hi,rfl⟩:=gO I;rw[List.length_drop]at hi;rw[List.getElem_drop];have O:xd k b+i < ls.length:=Oo;have eg:ls[xd k b+i]=ls.getD (xd k b+i) []:=by rw[gD,bC O];rfl
  rw[eg];cases b with
  |true=>
   obtain⟨g1,g2⟩:=f4.1 rfl;have e:=cmpL_eq g2;rw[<-e];exact h.at (by show k < k+1+i;omega) O
  |false=>
   have hk:k < ls.length:=by have:xd k false=k:=rfl;omega
   have a3:¬cmpL (ls.getD k []) row=0:=λe=>by have:=f4.2 ⟨hk,e⟩;cases this
   have U:cmpL row (ls.getD k []) < 0:=by
    have:=f3 hk;rw[yV];omega
   show cmpL row (ls.getD (k+i) []) < 0;by_cases a2:i=0
   ·subst a2;exact U
   ·exact zY U (h.at Oo (by have:xd k false=k:=rfl;omega))
 unfold qX Srt;rw[List.pairwise_append,List.pairwise_append];refine⟨⟨h.sublist (List.take_sublist _ _),List.pairwise_singleton _ _,λx I y V=>by rw[List.mem_singleton.1 V];exact K x I⟩,h.sublist (List.drop_sublist _ _),λx I y V=>?_⟩;rw[List.mem_append,List.mem_singleton]at I;rcases I with I|rfl
 ·exact zY (K x I) (M y V)
 ·exact M y V
theorem Xg{α:Type}{P:α->Prop}{l:List α}{x:α}(h:∀y∈l,P y)(K:P x):∀y∈qX l k b x,P y:=λy I=>by
 unfold qX at I;rw[List.mem_append,List.mem_append,List.mem_singleton]at I;rcases I with (I|rfl)|I
 ·exact h y (List.mem_of_mem_take I)
 ·exact K
 ·exact h y (List.mem_of_mem_drop I)
theorem qEP{α:Type}{l:List α}{x:α}(I:k<=l.length):(qX l k b x).length<=l.length+1:=by
 rw[vE l b x I];unfold xd;split <;> omega
theorem ZF{α β:Type}{l:List α}{m:List β}{x:α}{y:β}(h:l.length=m.length):(qX l k b x).length=(qX m k b y).length:=by
 unfold qX;simp only[List.length_append,List.length_take,List.length_drop,List.length_singleton,h]
section
variable (L:Nat->Int) (n:Nat)
def qk(span:Nat):Nat->CSt->List Int×CSt
 |0,s=>([],s)
 |k+1,s=>((qk span k s).1++[((pkF L n span (qk span k s).2).1:Int)],(pkF L n span (qk span k s).2).2)
def qT(span ar:Nat):Nat->CSt->(List (List Int)×List Int)×CSt
 |0,s=>(([],[]),s)
 |k+1,s=>
  let p:=qT span ar k s
  let r:=qk L n span ar p.2
  ((qX p.1.1 (xM p.1.1 r.1) (xX p.1.1 r.1) r.1,qX p.1.2 (xM p.1.1 r.1) (xX p.1.1 r.1) (wtD L n r.2)),(pkF L n 11 r.2).2)
end
theorem ZG(L:Nat->Int)(n span:Nat)(s:CSt):∀k,(qk L n span k s).1.length=k
 |0=>rfl
 |k+1=>by rw[qk,lA,ZG L n span s k];rfl
theorem K7(L:Nat->Int)(n span:Nat)(s:CSt)(hs:span<=256):∀k,∀x∈(qk L n span k s).1,0<=x/\x<=1000000
 |0,x,I=>by simp[qk]at I
 |k+1,x,I=>by
  rw[qk,List.mem_append,List.mem_singleton]at I;rcases I with I|rfl
  ·exact K7 L n span s hs k x I
  ·rcases QD (L:=L) (n:=n) (m:=span) (s:=(qk L n span k s).2)with h|h <;> omega
theorem Xh(L:Nat->Int)(n span:Nat)(s:CSt):∀k,(qk L n span k s).2.1<=s.1+k
 |0=>bK _
 |k+1=>by
  have I:=Xh L n span s k;have K:=Zy L n span (qk L n span k s).2;show(pkF L n span (qk L n span k s).2).2.1<=_;omega
structure Vk(ar m:Nat)(p:List (List Int)×List Int):Prop where
 srt:Srt p.1
 len:∀r∈p.1,r.length=ar
 val:∀r∈p.1,∀x∈r,0<=x/\x<=1000000
 few:p.1.length<=m
 ws:p.2.length=p.1.length
 wt:∀x∈p.2,-1000000<=x/\x<=1000000
theorem kF(L:Nat->Int)(n span ar:Nat)(s:CSt)(hs:span<=256):∀k,Vk ar k (qT L n span ar k s).1
 |0=>⟨List.Pairwise.nil,λr hr=>by simp[qT]at hr,λr hr=>by simp[qT]at hr,bK _,rfl,λx O=>by simp[qT]at O⟩
 |k+1=>by
  have h:=kF L n span ar s hs k;rw[qT];dsimp only;generalize (qT L n span ar k s).1=p at *;have I:=ZG L n span (qT L n span ar k s).2 ar;have K:=K7 L n span (qT L n span ar k s).2 hs ar;generalize qk L n span ar (qT L n span ar k s).2=r at *;have M:=qBw p.1 r.1;exact⟨h.srt.put M,Xg h.len I,Xg h.val K,bQ (qEP M.1) (by have:=h.few;omega),ZF h.ws,Xg h.wt (qFd L n r.2)⟩
theorem UT(L:Nat->Int)(n span ar:Nat)(s:CSt):∀k,(qT L n span ar k s).2.1<=s.1+k*(ar+1)
 |0=>by show s.1<=_;omega
 |k+1=>by
  have I:=UT L n span ar s k;have K:=Xh L n span (qT L n span ar k s).2 ar;have M:=Zy L n 11 (qk L n span ar (qT L n span ar k s).2).2;show(pkF L n 11 (qk L n span ar (qT L n span ar k s).2).2).2.1<=_;rw[Nat.add_mul];omega
theorem qAi(L:Nat->Int)(n m:Nat)(s:CSt)(h:0 < m):(pkF L n m s).1 < m:=by
 rcases QD (L:=L) (n:=n) (m:=m) (s:=s)with I|I <;> omega
theorem qEQ{ar:Nat}{p:List (List Int)×List Int}(h:Vk ar m p):xk p.1 (ar:Int)=true:=by
 refine jw λi hi=>?_;unfold rowAt;rw[bA,Bool.or_eq_true,dE,dE,dE];refine⟨?_,?_⟩
 ·have I:p.1.getD i []∈p.1:=by rw[gD,bC hi];exact gM hi
  rw[h.len _ I]
 ·by_cases e:i=0
  ·exact Or.inl e
  ·exact Or.inr (h.srt.at Oo hi)
def qD6(v:Value):Prop:=∃a n c,v=.slice a n c/\n<=c
def ISc(w:World)(v:Value)(l:List Int):Prop:=IS w v l/\qD6 v
theorem ISc.below{l:List Int}(h:ISc w v l)(hb:Bl w w'):ISc w' v l:=⟨h.1.below hb,h.2⟩
theorem YE(h:w.ownsRow B e s v n xs):qD6 v:=by
 rcases h.2 with ⟨rfl,I⟩|⟨g,cap,cur,rfl,-,-,I,-⟩
 ·exact⟨_,_,_,rfl,bK _⟩
 ·exact⟨_,_,_,rfl,I⟩
def ISSc(w:World)(v:Value)(ls:List (List Int)):Prop:=∃a cap,v=.slice a ls.length cap/\(ls.length=0∨∃b o,a=some ⟨b,o,none⟩/\∀j,j < ls.length->∃u,w.cell? ⟨b,o+j,none⟩=some u/\ISc w u (ls.getD j []))
theorem ISSc.iss(h:ISSc w v ls):ISS w v ls:=by
 obtain⟨a,cap,rfl,I⟩:=h;refine⟨a,cap,rfl,?_⟩;rcases I with I|⟨b,o,rfl,I⟩
 ·exact Or.inl I
 ·exact Or.inr ⟨b,o,rfl,λj K=>by obtain⟨u,M,O⟩:=I j K;exact⟨u,M,O.1⟩⟩
theorem ISSc.below(h:ISSc w v ls)(hb:Bl w w'):ISSc w' v ls:=by
 obtain⟨a,cap,rfl,I⟩:=h;refine⟨a,cap,rfl,?_⟩;rcases I with I|⟨b,o,rfl,I⟩
 ·exact Or.inl I
 ·exact Or.inr ⟨b,o,rfl,λj M=>by obtain⟨u,K,O⟩:=I j M;exact⟨u,(hb.cell (p:=⟨b,o+j,none⟩) (bL w _ K)).trans K,O.below hb⟩⟩
structure RS(W0 W:World)(v:Value)(us:List Value)(ls:List (List Int)):Prop where
 sl:∃a cap,v=.slice a ls.length cap/\ls.length<=cap/\(ls.length=0∨∃b o,a=some ⟨b,o,none⟩/\∀j,j < ls.length->W.cell? ⟨b,o+j,none⟩=some (us.getD j undef))
 len:us.length=ls.length
 each:∀i,i < ls.length->ISc W0 (us.getD i undef) (ls.getD i [])
theorem RS.issc(h:RS W0 W v us ls)(hb:Bl W0 W):ISSc W v ls:=by
 obtain⟨⟨a,cap,rfl,O,I⟩,U,M⟩:=h;refine⟨a,cap,rfl,?_⟩;rcases I with I|⟨b,o,rfl,I⟩
 ·exact Or.inl I
 ·exact Or.inr ⟨b,o,rfl,λj K=>⟨_,I j K,(M j K).below hb⟩⟩
theorem RS.iss(h:RS W0 W v us ls)(hb:Bl W0 W):ISS W v ls:=(h.issc hb).iss
theorem zq{α:Type}{l:List α}{d:α}(h:i < n):(l.take n).getD i d=l.getD i d:=by
 rw[gD,List.getElem?_take_of_lt h,<-gD]
theorem vm{α:Type}{l:List α}{d:α}:(l.drop n).getD i d=l.getD (n+i) d:=by
 rw[gD,List.getElem?_drop,<-gD]
theorem drop_cons(h:j < l.length):l.drop j=l.getD j []::l.drop (j+1):=by
 rw[gD,bC h];exact List.drop_eq_getElem_cons h
theorem JR(h:¬j < l.length):l.drop j=[]:=List.drop_eq_nil_of_le Oo
def qD7(W:World)(v v':Value):Prop:=v'=v∨∀g,v'.ownBlock=some g->W.heap.size<=g
def vlF:List Int->List Int->Int->Int
 |[],_,_=>0
 |x::vs,r,v=>if x=v then r.getD 0 0 else vlF vs (r.drop 1) v
def qp(vs vars row:List Int):List Int:=vars.map (vlF vs row)
theorem ZS(vs vars row:List Int):(qp vs vars row).length=vars.length:=by simp[qp]
theorem qEt{v:Int}(I:j < vs.length)(h:vs.getD j 0=v):vlF (vs.drop j) (row.drop j) v=row.getD j 0:=by
 rw[zl I,vlF,if_pos h,vm,Nat.add_zero]
theorem qDb{v:Int}(I:j < vs.length)(h:¬vs.getD j 0=v):vlF (vs.drop j) (row.drop j) v=vlF (vs.drop (j+1)) (row.drop (j+1)) v:=by
 rw[zl I,vlF,if_neg h,List.drop_drop]
theorem Vc(w:World)(v0 v1 v2 vr:Value)(vs row:List Int)(n1 n2:Nat)(h1:∃a c,v1=.slice a n1 c)(h2:∃a c,v2=.slice a n2 c)(h:IS w v0 vs)(hr:IS w vr row)(x:Int)(hl:vs.length<=1099511627776)(a3:row.length=vs.length):
 Cl 114 #[.agg #[v0,v1,v2],vr,.int .i64 x] w λe w'=>e=.returned (.int .i64 (vlF vs row x))/\Bl w w':=by
 obtain⟨a1,c1,rfl⟩:=h1;obtain⟨a2,c2,rfl⟩:=h2;obtain⟨a,cap,rfl,hc⟩:=h;obtain⟨ar,a6,rfl,a4⟩:=hr;obtain⟨V,I⟩:∃V,V=w.alloc (.cells #[.slice a vs.length cap,.slice a1 n1 c1,.slice a2 n2 c2] 34):=⟨_,rfl⟩;have K:Hid (Bl w V):=hid (by rw[I];exact(bM _ _).alloc (bK _) _);have d0:V.cell? ⟨w.heap.size,0,none⟩=some (.slice a vs.length cap):=by rw[I,cA _ _ _ _ rfl];rfl
 have HC:Hid (∀j,j < vs.length->∃b o,a=some ⟨b,o,none⟩/\V.cell? ⟨b,o+j,none⟩=some (.int .i64 (vs.getD j 0))):=hid λj O=>by
  rcases hc with h0|⟨b,o,rfl,h⟩
  ·omega
  ·exact⟨b,o,rfl,(K.out.cell (bL w _ (h j O))).trans (h j O)⟩
 have a5:Hid (∀j,j < vs.length->∃b o,ar=some ⟨b,o,none⟩/\V.cell? ⟨b,o+j,none⟩=some (.int .i64 (row.getD j 0))):=hid λj O=>by
  rcases a4 with h0|⟨b,o,rfl,h⟩
  ·omega
  ·exact⟨b,o,rfl,(K.out.cell (bL w _ (h j Oo))).trans (h j Oo)⟩
 have HH:Hid (∀j,j < vs.length->vs.getD j 0=x->vlF (vs.drop j) (row.drop j) x=row.getD j 0):=hid λj O e=>qEt O e;have HM:Hid (∀j,j < vs.length->¬vs.getD j 0=x->vlF (vs.drop j) (row.drop j) x=vlF (vs.drop (j+1)) (row.drop (j+1)) x):=hid λj O e=>qDb O e;have HE:Hid (vlF (vs.drop vs.length) (row.drop vs.length) x=0):=hid (by rw[List.drop_length];rfl);rw[a3];clear hc a4 a3;obtain⟨n,hn⟩:∃n,n=vs.length:=⟨_,rfl⟩;rw[<-hn]at HC a5 HH HM HE hl d0 I ⊢;clear hn;go_enter Tryz.func114,Tryz.ntmps114
 go_upto_region 1 with fail
 rw[<-I];clear I;go_wp2_with fail
 go_loop [12] (λt=>∃j:Nat,j<=n/\t=.int .i64 j/\Hid (vlF (vs.drop j) (row.drop j) x=vlF vs row x)) (λt=>n - (intOf t).toNat)
 case atStart=>exact⟨0,nZ _,rfl,hid rfl⟩
 case round=>
  obtain⟨j,O,rfl,U⟩:=hrel;by_cases M:j < n
  ·have i1:(j:Int) < (n:Int):=Oo;obtain⟨b,o,ea,e1⟩:=HC.out j M;subst ea;by_cases hx:vs.getD j 0=x
   ·obtain⟨b2,o2,ea,e2⟩:=a5.out j M;subst ea;have hf:=hid ((HH.out j M hx).symm.trans U.out);rw[hx]at e1;generalize row.getD j 0=y at *;clear hx;go_wp2;go_ret;exact⟨qv hf.out,K.out⟩
   ·have hf:=hid ((HM.out j M hx).symm.trans U.out);generalize vs.getD j 0=y at *;go_wp2;go_round
    case rel=>exact⟨j+1,Oo,Gg,hf⟩
    case measure=>simp[intOf];omega
  ·obtain rfl:j=n:=Oo;have i1:¬((j:Int) < (j:Int)):=Oo;have hf:=hid (HE.out.symm.trans U.out);go_wp2;go_ret;exact⟨qv hf.out,K.out⟩
theorem Xz(w:World)(v0 v1 v2 vr vv:Value)(vs row vars:List Int)(n1 n2:Nat)(h1:∃a c,v1=.slice a n1 c)(h2:∃a c,v2=.slice a n2 c)(h:IS w v0 vs)(hr:IS w vr row)(hv:IS w vv vars)(hl:vs.length<=1099511627776)(a5:row.length=vs.length)(b9:vars.length<=1000):
 Cl 83 #[.agg #[v0,v1,v2],vr,vv] w λe w'=>∃v,e=.returned v/\w'.ownsRow w.heap.size 3 1 v (qp vs vars row).length ((qp vs vars row).map (Value.int .i64))/\Bl w w':=by
 obtain⟨i0,hi,c7,c8,c9⟩:=info_parts Tryz.infoInt;have KV:Hid (∀W x,Bl w W->Cl 114 #[.agg #[v0,v1,v2],vr,.int .i64 x] W λe w'=>e=.returned (.int .i64 (vlF vs row x))/\Bl W w'):=hid λW x hW=>Vc W v0 v1 v2 vr vs row n1 n2 h1 h2 (h.below hW) (hr.below hW) x hl a5;obtain⟨a1,c1,rfl⟩:=h1;obtain⟨a2,c2,rfl⟩:=h2;obtain⟨a,cap,rfl,-⟩:=h;obtain⟨ar,d9,rfl,-⟩:=hr;obtain⟨av,e0,rfl,a6⟩:=hv;obtain⟨O,K⟩:∃O,O=w.alloc (.cells #[.slice a vs.length cap,.slice a1 n1 c1,.slice a2 n2 c2] 34):=⟨_,rfl⟩;have a3:Bl w O:=by rw[K];exact(bM _ _).alloc (bK _) _
 have a7:Hid (O.heap[w.heap.size]?=some (.cells #[.slice a vs.length cap,.slice a1 n1 c1,.slice a2 n2 c2] 34 (0,0))):=hid (by rw[K];exact heap_alloc_new _ _);have d6:O.heap.size=w.heap.size+1:=by rw[K];simp
 have U:Hid (Bl w (O.alloc (.cells #[] 3))/\(O.alloc (.cells #[] 3)).ownsRow w.heap.size 3 1 (.slice (some ⟨w.heap.size+1,0,none⟩) 0 0) 0 []/\(O.alloc (.cells #[] 3)).heap[w.heap.size]?=some (.cells #[.slice a vs.length cap,.slice a1 n1 c1,.slice a2 n2 c2] 34 (0,0))):=hid (by
  refine⟨a3.alloc a3.size _,?_,(Below.heap_alloc _ _ _ Oo).trans a7.out⟩;have:=oM O (e:=3) (size:=1) (base:=w.heap.size) #[] 0 Oo Dd rfl;rw[d6]at this;exact this)
 have HC:Hid (∀W,Bl w W->∀j,j < vars.length->∃b o,av=some ⟨b,o,none⟩/\W.cell? ⟨b,o+j,none⟩=some (.int .i64 (vars.getD j 0))):=hid λW hW j hj=>by
  rcases a6 with h0|⟨b,o,rfl,h⟩
  ·omega
  ·exact⟨b,o,rfl,(hW.cell (bL w _ (h j hj))).trans (h j hj)⟩
 have HP:Hid (∀j,j < vars.length->(qp vs (vars.take (j+1)) row).map (Value.int .i64)=(qp vs (vars.take j) row).map (Value.int .i64)++[.int .i64 (vlF vs row (vars.getD j 0))]):=hid λj hj=>by
  unfold qp;rw[tA,bC hj,gD,bC hj,mA,mA];rfl
 have a8:Hid ((qp vs (vars.take 0) row).map (Value.int .i64)=[]):=hid rfl;have a9:Hid (qp vs (vars.take vars.length) row=qp vs vars row):=hid (by rw[tL]);rw[ZS];clear a6 a3 a7 a5 hl;obtain⟨n,hn⟩:∃n,n=vars.length:=⟨_,rfl⟩;rw[<-hn]at HC HP a9 b9 ⊢;clear hn;generalize vs.length=nv at *;generalize row.length=nr at *;go_enter Tryz.func83,Tryz.ntmps83
 go_upto_region 1 with fail
 rw[<-K];clear K;go_wp2_with fail
 generalize O.alloc (.cells #[] 3)=W2 at *;go_loopw [7,13] (λu t wr=>∃(j:Nat) (vo:Value),j<=n/\t=.int .i64 j/\vo=u/\Hid (Bl w wr/\wr.ownsRow w.heap.size 3 1 vo j ((qp vs (vars.take j) row).map (Value.int .i64))/\wr.heap[w.heap.size]?=some (.cells #[.slice a nv cap,.slice a1 n1 c1,.slice a2 n2 c2] 34 (0,0)))) (λ_ t _=>n - (intOf t).toNat)
 case atStart=>exact⟨0,_,nZ _,rfl,rfl,hid ⟨U.out.1,by rw[a8.out];exact U.out.2.1,U.out.2.2⟩⟩
 case round=>
  clear U a8;obtain⟨j,vo,hj,rfl,rfl,M⟩:=hrel;by_cases b0:j < n
  ·have i1:(j:Int) < (n:Int):=Oo;obtain⟨b,o,ea,e1⟩:=HC.out wr M.out.1 j b0;subst ea;have d0:wr.cell? ⟨w.heap.size,0,none⟩=some (.slice a nv cap):=by rw[cell_of_row _ _ _ _ _ _ M.out.2.2];rfl
   have d1:wr.cell? ⟨w.heap.size,1,none⟩=some (.slice a1 n1 c1):=by rw[cell_of_row _ _ _ _ _ _ M.out.2.2];rfl
   have d2:wr.cell? ⟨w.heap.size,2,none⟩=some (.slice a2 n2 c2):=by rw[cell_of_row _ _ _ _ _ _ M.out.2.2];rfl
   have b7:=hid (KV.out wr (vars.getD j 0) M.out.1);have d7:=hid (HP.out j b0);generalize vlF vs row (vars.getD j 0)=y at *;generalize vars.getD j 0=x at *;go_wp2_with fail
   refine b7.out.mono ?_;rintro e w3 ⟨rfl,V⟩;have HN:Hid (Bl w w3/\w3.ownsRow w.heap.size 3 1 vo j ((qp vs (vars.take j) row).map (Value.int .i64))/\w3.heap[w.heap.size]?=some (.cells #[.slice a nv cap,.slice a1 n1 c1,.slice a2 n2 c2] 34 (0,0))):=hid ⟨bt M.out.1 V,qB M.out.2.1 V,(V.block _ (bL wr _ d0)).trans M.out.2.2⟩;clear M V b7 d0 d1 d2 e1;have d8:=HN.out.1.size;go_wp2_with (first|(at_builtin;refine wpList_append_lies _ rfl _ _ 25 rfl w.heap.size 3 i0 (.int .i64 0) 1 8 Tryz.underlying25 hi c7 c8 c9 rfl Dd vo _ _ rfl (HN.out.2.1.alloc _) ⟨_,0,none⟩ 1 1 [.int .i64 y] rfl rfl (qH _ _ _) (λu hu=>by simp at hu;subst hu;rfl) Dd (by unfold maxLen;omega) Oo (by simp;omega) _ rfl ?_;intro g3 cp3 w4 a4 I e2 e3)|fail)
   go_roundw
   case rel=>
    refine⟨j+1,_,Oo,Gg,rfl,hid ⟨(HN.out.1.alloc d8 _).grown I (by simp;omega) (λq hq=>(HN.out.2.1.lt q hq).1),by rw[d7.out];exact a4,?_⟩⟩;refine((I.block _ (by simp;have:=bL w3 ⟨w.heap.size,0,none⟩ (by rw[cell_of_row _ _ _ _ _ _ HN.out.2.2];rfl);simp at this;omega) (own_ne HN.out.2.1 ⟨_,HN.out.2.2⟩ Dd)).trans (Below.heap_alloc _ _ _ ?_)).trans HN.out.2.2;exact bL w3 ⟨w.heap.size,0,none⟩ (by rw[cell_of_row _ _ _ _ _ _ HN.out.2.2];rfl)
   case measure=>simp[intOf];omega
  ·obtain rfl:j=n:=Oo;have i1:¬((j:Int) < (j:Int)):=Oo;go_wp2_with fail
   go_ret;have h2:=M.out.2.1;rw[a9.out]at h2;exact⟨_,rfl,h2,M.out.1⟩
theorem zI{w3:World}{b:Nat}(K:(W.alloc o).grownBy w3 v.ownBlock)(hb:b < W.heap.size)(I:some b≠v.ownBlock):w3.heap[b]?=W.heap[b]?:=
 (K.block b (by simp;omega) I).trans (Below.heap_alloc _ _ _ hb)
structure RQ(W:World)(B:Nat)(v:Value)(us:List Value)(ls:List (List Int)):Prop where
 own:W.ownsRow B 25 1 v ls.length us
 len:us.length=ls.length
 each:∀i,i < ls.length->W.ownsRow B 3 1 (us.getD i undef) (ls.getD i []).length ((ls.getD i []).map (Value.int .i64))
 ap:∀i j,i < j->j < ls.length->∀g,(us.getD i undef).ownBlock=some g->(us.getD j undef).ownBlock≠some g
section
variable {W W' w3:World} {B B':Nat} {v v' u:Value} {us:List Value} {ls:List (List Int)} {l:List Int} {o:Obj}
theorem RQ.below(h:RQ W B v us ls)(hb:Bl W W'):RQ W' B v us ls:=⟨qB h.own hb,h.len,λi hi=>qB (h.each i hi) hb,h.ap⟩
theorem RQ.base(h:RQ W B v us ls)(hB:B'<=B):RQ W B' v us ls:=⟨qF h.own hB,h.len,λi hi=>qF (h.each i hi) hB,h.ap⟩
theorem RQ.step(h:RQ W B v us ls)(hu:W.ownsRow B 3 1 u l.length (l.map (Value.int .i64)))(hn:∀i,i < ls.length->∀g,(us.getD i undef).ownBlock=some g->u.ownBlock≠some g)
 (I:w3.ownsRow B 25 1 v' (ls.length+1) (us++[u])) (hg:(W.alloc o).grownBy w3 v.ownBlock):RQ w3 B v' (us++[u]) (ls++[l]):=by
 have hint:∀{x:Value} {k:Nat} {xs:List Value},W.ownsRow B 3 1 x k xs->w3.ownsRow B 3 1 x k xs:=λM=>
  qA M λg K=>zI hg (M.lt g K).2 (own_ne h.own (qO M K) Dd)
 have hl:=h.len;have O:∀i,i < ls.length->(us++[u]).getD i undef=us.getD i undef:=λi hi=>by rw[gD,aL Oo,<-gD]
 have V:(us++[u]).getD ls.length undef=u:=by rw[gD,bX Oo,show ls.length - us.length=0 by omega];rfl
 have f1:∀i,i < ls.length->(ls++[l]).getD i []=ls.getD i []:=λi hi=>by rw[gD,aL hi,<-gD]
 have f2:(ls++[l]).getD ls.length []=l:=by rw[gD,bX (bK _),Nat.sub_self];rfl
 refine⟨by rw[lA];exact I,by simp[hl],λi hi=>?_,λi j U hj g=>?_⟩
 ·rw[lA,lS]at hi;by_cases e:i < ls.length
  ·rw[O i e,f1 i e];exact hint (h.each i e)
  ·obtain rfl:i=ls.length:=Oo;rw[V,f2];exact hint hu
 ·rw[lA,lS]at hj;rw[O i Oo];by_cases e:j < ls.length
  ·rw[O j e];exact h.ap i j U e g
  ·obtain rfl:j=ls.length:=Oo;rw[V];exact hn i Oo g
theorem RQ.get(h:RQ W B v us ls)(hi:i < ls.length):∃g cap,v=.slice (some ⟨g,0,none⟩) ls.length cap/\ls.length<=cap/\W.cell? ⟨g,i,none⟩=some (us.getD i undef):=by
 rcases h.own.2 with ⟨-,U⟩|⟨g,cap,cur,rfl,I,K,M,-,-,O⟩
 ·omega
 ·refine⟨g,cap,rfl,M,?_⟩;have hlen:=h.len;rw[cell_of_row _ _ _ _ _ _ K,gD,bC Oo,Option.getD_some,<-bC (by omega:i < us.length),<-O,List.getElem?_take_of_lt Oo,Array.getElem?_toList]
theorem RQ.rs(h:RQ W B v us ls):RS W W v us ls:=by
 refine⟨?_,h.len,λi hi=>⟨qK (h.each i hi),YE (h.each i hi)⟩⟩;rcases h.own.2 with ⟨rfl,I⟩|⟨g,cap,cur,rfl,O,V,I,-⟩
 ·exact⟨none,0,by rw[I],Oo,Or.inl I⟩
 ·refine⟨_,cap,rfl,I,Or.inr ⟨g,0,rfl,λj U=>?_⟩⟩;obtain⟨g',M,e,-,K⟩:=h.get U;simp only[Value.slice.injEq,Option.some.injEq,Addr.mk.injEq]at e;obtain⟨⟨rfl,-⟩,-⟩:=e;rw[Nat.zero_add];exact K
end
def atP(row places:List Int):List Int:=places.map λp=>row.getD p.toNat 0
theorem qAH(row places:List Int):(atP row places).length=places.length:=by simp[atP]
theorem Xy(w:World)(vr vp:Value)(row places:List Int)(hr:IS w vr row)(hp:IS w vp places)(c7:places.length<=1000)(a3:∀p∈places,0<=p/\p < row.length):
 Cl 126 #[vr,vp] w λe w'=>∃v,e=.returned v/\w'.ownsRow w.heap.size 3 1 v (atP row places).length ((atP row places).map (Value.int .i64))/\Bl w w':=by
 obtain⟨i0,hi,a4,a5,a6⟩:=info_parts Tryz.infoInt;obtain⟨ar,d0,rfl,a7⟩:=hr;obtain⟨ap,d6,rfl,a8⟩:=hp
 have HC:Hid (∀W,Bl w W->∀j,j < places.length->∃(b o q br oo:Nat),ap=some ⟨b,o,none⟩/\ar=some ⟨br,oo,none⟩/\q < row.length/\W.cell? ⟨b,o+j,none⟩=some (.int .i64 (q:Int))/\W.cell? ⟨br,oo+q,none⟩=some (.int .i64 (row.getD q 0))/\places.getD j 0=(q:Int)):=hid λW hW j M=>by
  have hm:places.getD j 0∈places:=by rw[gD,bC M];exact gM _
  obtain⟨h0,h1⟩:=a3 _ hm;have e:places.getD j 0=((places.getD j 0).toNat:Int):=Oo;rcases a8 with h2|⟨b,o,rfl,h2⟩
  ·omega
  ·rcases a7 with h3|⟨br,oo,rfl,h3⟩
   ·omega
   ·refine⟨b,o,(places.getD j 0).toNat,br,oo,rfl,rfl,Oo,?_,?_,e⟩
    ·rw[<-e];exact(hW.cell (bL w _ (h2 j M))).trans (h2 j M)
    ·exact(hW.cell (bL w _ (h3 _ Oo))).trans (h3 _ Oo)
 have HP:Hid (∀j q,j < places.length->places.getD j 0=((q:Nat):Int)->(atP row (places.take (j+1))).map (Value.int .i64)=(atP row (places.take j)).map (Value.int .i64)++[.int .i64 (row.getD q 0)]):=hid λj q M e=>by
  unfold atP;rw[tA,bC M,mA,mA];rw[gD,bC M]at e;simp only[Option.getD_some]at e;simp[e]
 have a9:Hid ((atP row (places.take 0)).map (Value.int .i64)=[]):=hid rfl;have b0:Hid (atP row (places.take places.length)=atP row places):=hid (by rw[tL]);rw[qAH];clear a7 a8 a3;obtain⟨n,hn⟩:∃n,n=places.length:=⟨_,rfl⟩;obtain⟨nr,b7⟩:∃nr,nr=row.length:=⟨_,rfl⟩;rw[<-hn]at HC HP b0 c7 ⊢;rw[<-b7]at HC ⊢;clear hn b7;go_enter Tryz.func126,Tryz.ntmps126
 go_wp2_with (at_make;refine wpList_make_own _ rfl _ _ 25 rfl w.heap.size 3 i0 (.int .i64 0) 1 Tryz.underlying25 hi a4 a5 _ _ _ n rfl rfl rfl ?b2 ?b3 (bK _) ?_)
 case b2=>rw[a6];omega
 case b3=>unfold maxLen;omega
 intro w0 K I;have U:Hid (w0.ownsRow w.heap.size 3 1 (.slice (some ⟨w.heap.size,0,none⟩) 0 n) 0 []/\Bl w w0):=hid ⟨K,(bM _ _).grown I (bK _) (λj M=>by cases M)⟩;clear I K;go_wp2_with fail
 go_loopw [5,13] (λu t wr=>∃(j:Nat) (vo:Value),j<=n/\t=.int .i64 j/\vo=u/\Hid (wr.ownsRow w.heap.size 3 1 vo j ((atP row (places.take j)).map (Value.int .i64))/\Bl w wr)) (λ_ t _=>n - (intOf t).toNat)
 case atStart=>exact⟨0,_,nZ _,rfl,rfl,hid ⟨by rw[a9.out];exact U.out.1,U.out.2⟩⟩
 case round=>
  clear U a9;obtain⟨j,vo,M,rfl,rfl,V⟩:=hrel;by_cases b9:j < n
  ·have i1:(j:Int) < (n:Int):=Oo;obtain⟨b,o,q,br,oo,ea,eb,hq,e1,e2,e3⟩:=HC.out wr V.out.2 j b9;subst ea eb;have i2:(q:Int) < (nr:Int):=Oo;have c8:=hid (HP.out j q b9 e3);have c9:=V.out.2.size;clear e3;generalize row.getD q 0=y at *;go_wp2_with (first|(at_builtin;refine wpList_append_lies _ rfl _ _ 25 rfl w.heap.size 3 i0 (.int .i64 0) 1 8 Tryz.underlying25 hi a4 a5 a6 rfl Dd vo _ _ rfl (V.out.1.alloc _) ⟨_,0,none⟩ 1 1 [.int .i64 y] rfl rfl (qH _ _ _) (λu hu=>by simp at hu;subst hu;rfl) Dd (by unfold maxLen;omega) Oo (by simp;omega) _ rfl ?_;intro g3 cp3 w4 a2 O d7 d8)|fail)
   go_roundw
   case rel=>exact⟨j+1,_,Oo,Gg,rfl,hid ⟨by rw[c8.out];exact a2,(V.out.2.alloc c9 _).grown O (by simp;omega) (λq hq=>(V.out.1.lt q hq).1)⟩⟩
   case measure=>simp[intOf];omega
  ·obtain rfl:j=n:=Oo;have i1:¬((j:Int) < (j:Int)):=Oo;go_wp2_with fail
   go_ret;have h2:=V.out.1;rw[b0.out]at h2;exact⟨_,rfl,h2,V.out.2⟩
theorem qW(h:w.ownsRow B e s v n xs):∃a cap,v=.slice a n cap:=by
 rcases h.2 with ⟨rfl,I⟩|⟨g,cap,cur,rfl,_⟩
 ·exact⟨none,0,by rw[I]⟩
 ·exact⟨_,cap,rfl⟩
structure RWs(W:World)(B:Nat)(v:Value)(us:List Value)(ls:List (List Int)):Prop where
 own:W.ownsRow B 25 1 v ls.length us
 len:us.length=ls.length
 each:∀i,i < ls.length->W.ownsRow B 3 1 (us.getD i undef) (ls.getD i []).length ((ls.getD i []).map (Value.int .i64))
section
variable {W W':World} {B:Nat} {v:Value} {vr vw:Nat->Value} {us:Nat->List Value}
theorem RWs.iss{K:List Value}(h:RWs W B I K ls):ISS W I ls:=by
 rcases h.own.2 with ⟨rfl,M⟩|⟨g,cap,cur,rfl,-,U,V,h2,h3,h4⟩
 ·exact⟨none,0,by rw[M],Or.inl M⟩
 ·refine⟨_,cap,rfl,Or.inr ⟨g,0,rfl,λj O=>⟨K.getD j undef,?_,qK (h.each j O)⟩⟩⟩;rw[Nat.zero_add,h.own.cellAt j Oo,gD,bC (by have:=h.len;omega)];rfl
end
theorem RdrAt.above{N:Nat}{a:Option Addr}{cap:Nat}{p sd:Int}(h:RdrAt W g a n cap p sd)(hb:Below N W W')(K:g < N)(M:∀b o,a=some ⟨b,o,none⟩->0 < n->b < N):RdrAt W' g a n cap p sd:=by
 have I:∀{b o:Nat} {v:Value},b < N->W.cell? ⟨b,o,none⟩=some v->W'.cell? ⟨b,o,none⟩=some v:=λ{b o v} hb' I=>(bF (w:=W) (a:=⟨b,o,none⟩) (hb.block b hb')).trans I;have U:∀o,W'.frozen? ⟨g,o,none⟩=W.frozen? ⟨g,o,none⟩:=λo=>by unfold World.frozen?;rw[hb.block g K]
 refine⟨I K h.c0,I K h.c1,I K h.c2,(U 1).trans h.f1,(U 2).trans h.f2,λj V=>?_,h.seed⟩;obtain⟨b,o,x,e,O,hx,hr⟩:=h.bytes j V;exact⟨b,o,x,e,O,I (M b o e Oo) hx,hr⟩
theorem Kc.up{a b c:World}(h:Kc g a b)(k:Below a.heap.size b c):Kc g a c:=
 ⟨k.os.trans h.os,k.tape.trans h.tape,k.output.trans h.output,bQ h.size k.size,λx I K=>(k.block x I).trans (h.block x I K)⟩
theorem yY(h:w.ownsRow B e s v n xs)(K:Kc g w w')(M:g < B):w'.ownsRow B e s v n xs:=
 qA h λc I=>K.block c (h.lt c I).2 (by have:=(h.lt c I).1;omega)
theorem zv{b:Nat}(h:W.heap[b]?=some o):b < W.heap.size:=(Array.getElem?_eq_some_iff.1 h).1
theorem zu{b:Nat}(h:w.heap[b]?=some o)(I:Kc g w w')(K:b≠g):w'.heap[b]?=some o:=(I.block b (zv h) K).trans h
theorem kG{o:Nat}(h:W.ownsRow B e s v n xs)(hp:p < B):(W.setCell ⟨p,o,none⟩ u).ownsRow B e s v n xs:=
 qA h λc I=>bE _ _ _ _ (by have:=(h.lt c I).1;show c≠p;omega)
theorem RWs.kc(h:RWs W B v us ls)(I:Kc g W W')(K:g < B):RWs W' B v us ls:=⟨yY h.own I K,h.len,λi hi=>yY (h.each i hi) I K⟩
theorem RWs.setN{o:Nat}(h:RWs W B v us ls)(hp:p < B):RWs (W.setCell ⟨p,o,none⟩ u) B v us ls:=⟨kG h.own hp,h.len,λi hi=>kG (h.each i hi) hp⟩
structure Dr(w W:World)(g:Nat)(a:Option Addr)(L:Nat->Int)(n cap:Nat)(s:CSt):Prop where
 kc:Kc g w W
 rd:RdF W g a L n cap s
 gl:g < w.heap.size
 bl:∀b o,a=some ⟨b,o,none⟩->0 < n->b < w.heap.size
section
variable {w W W':World} {g:Nat} {a:Option Addr} {L:Nat->Int} {n cap:Nat} {s s':CSt}
theorem Dr.start(h:RdF w g a L n cap s):Dr w w g a L n cap s:=
 ⟨Kc.refl _ _,h,h.lt,λb o e K=>by
  obtain⟨O,U,x,I,-,M,-⟩:=h.1.bytes 0 K;rw[e]at I;cases I
  exact bL w _ M⟩
theorem Dr.bel(h:Dr w W g a L n cap s)(hb:Below w.heap.size W W'):Dr w W' g a L n cap s:=
 ⟨h.kc.up hb,⟨h.rd.1.above hb h.gl h.bl,λj I b o e=>(bF (w:=W) (a:=⟨b,o+j,none⟩) (hb.block b (h.bl b o e Oo))).trans (h.rd.2 j I b o e)⟩,h.gl,h.bl⟩
theorem Dr.turn(h:Dr w W g a L n cap s)(I:Kc g W W')(hr:RdF W' g a L n cap s'):Dr w W' g a L n cap s':=⟨h.kc.trans I,hr,h.gl,h.bl⟩
theorem Dr.pick(h:Dr w W g a L n cap s)(I:n<=1048576)(K:s.1<=1000000000)(M:m<=256):
 Cl 35 #[.pointer (some ⟨g,0,none⟩),.int .i64 m] W λe w'=>e=.returned (.int .i64 ((pkF L n m s).1:Nat))/\Dr w w' g a L n cap (pkF L n m s).2/\Kc g W w':=
 (Q3 W g a L n cap m s h.rd I K M).mono λ_ _ ⟨h1,h2,h3⟩=>⟨h1,h.turn h3 h2,h3⟩
theorem Dr.weight(h:Dr w W g a L n cap s)(I:n<=1048576)(K:s.1<=1000000000):
 Cl 71 #[.pointer (some ⟨g,0,none⟩)] W λe w'=>e=.returned (.int .i64 (wtD L n s))/\Dr w w' g a L n cap (pkF L n 11 s).2/\Kc g W w':=
 (ZH W g a L n cap s h.rd I K).mono λ_ _ ⟨h1,h2,h3⟩=>⟨h1,h.turn h3 h2,h3⟩
end
theorem qBx{α β:Type}{us:List α}{ls:List β}(hl:us.length=ls.length)(U:k<=ls.length)(there:Bool)(x:α)(y:β)(d1:α)(d2:β)(V:j < (qX ls k there y).length):
 ((qX us k there x).getD j d1=x/\(qX ls k there y).getD j d2=y)∨∃I,I < ls.length/\(qX us k there x).getD j d1=us.getD I d1/\(qX ls k there y).getD j d2=ls.getD I d2:=by
 rw[vE ls there y U]at V;have K:(us.take k++[x]).length=k+1:=by rw[lA,bZ,lS];omega
 have M:(ls.take k++[y]).length=k+1:=by rw[lA,bZ,lS];omega
 unfold qX;by_cases O:j < k
 ·refine Or.inr ⟨j,Oo,?_,?_⟩
  ·rw[gD,aL Oo,aL (by rw[bZ];omega),List.getElem?_take_of_lt O,<-gD]
  ·rw[gD,aL Oo,aL (by rw[bZ];omega),List.getElem?_take_of_lt O,<-gD]
 ·by_cases h2:j=k
  ·subst h2;refine Or.inl ⟨?_,?_⟩
   ·rw[gD,aL Oo,bX (by rw[bZ];omega),bZ,show j - min j us.length=0 by omega];rfl
   ·rw[gD,aL Oo,bX (by rw[bZ];omega),bZ,show j - min j ls.length=0 by omega];rfl
  ·refine Or.inr ⟨xd k there+(j - (k+1)),Oo,?_,?_⟩
   ·rw[gD,bX Oo,K,List.getElem?_drop,<-gD]
   ·rw[gD,bX Oo,M,List.getElem?_drop,<-gD]
theorem qCy{n2:Nat}{there:Bool}{ys:List Value}(h:RWs W B v us ls)(hB:B<=W.heap.size)(U:k<=ls.length)(hr:W.ownsRow B 3 1 I row.length (row.map (Value.int .i64)))(hp:Pt W w' v1 v2 (qX us k there I).length n2 (qX us k there I) ys):RWs w' B v1 (qX us k there I) (qX ls k there row):=by
 have hl:=h.len;have e:(qX us k there I).length=(qX ls k there row).length:=by rw[vE us there I Oo,vE ls there row U,hl]
 refine⟨by rw[<-e];exact qF hp.own1 hB,e,λj V=>?_⟩;rcases qBx hl U there I row undef [] V with ⟨K,M⟩|⟨j',O,K,M⟩
 ·rw[K,M];exact qB hr hp.bel
 ·rw[K,M];exact qB (h.each j' O) hp.bel
structure TmW(W:World)(B p:Nat)(v0:Value)(vs:List Int)(ls:List (List Int))(ws:List Int)(vr vw:Value)(us:List Value):Prop where
 box:W.heap[p]?=some (.cells #[v0,vr,vw] 34 (0,0))
 o0:W.ownsRow B 3 1 v0 vs.length (vs.map (Value.int .i64))
 ne0:∀q,v0.ownBlock=some q->q≠p
 rw:RWs W (p+1) vr us ls
 ow:W.ownsRow (p+1) 3 1 vw ws.length (ws.map (Value.int .i64))
 eq:ws.length=ls.length
 nil:ls=[]->vr=.slice none 0 0/\vw=.slice none 0 0
section
variable {W W':World} {B p:Nat} {v0:Value} {vs:List Int} {ls:List (List Int)} {ws:List Int} {vr vw:Value} {us:List Value}
theorem TmW.lt(h:TmW W B p v0 vs ls ws vr vw us):p < W.heap.size:=zv h.box
theorem TmW.kc(h:TmW W B p v0 vs ls ws vr vw us)(I:Kc g W W')(K:g < B)(hp:g < p):TmW W' B p v0 vs ls ws vr vw us:=
 ⟨zu h.box I Oo,yY h.o0 I K,h.ne0,h.rw.kc I Oo,yY h.ow I Oo,h.eq,h.nil⟩
theorem TmW.cells(h:TmW W B p v0 vs ls ws vr vw us):W.cell? ⟨p,0,none⟩=some v0/\W.cell? ⟨p,1,none⟩=some vr/\W.cell? ⟨p,2,none⟩=some vw/\∀o,W.frozen? ⟨p,o,none⟩=false:=by
 refine⟨?_,?_,?_,λo=>?_⟩
 ·rw[cell_of_row _ _ _ _ _ _ h.box];rfl
 ·rw[cell_of_row _ _ _ _ _ _ h.box];rfl
 ·rw[cell_of_row _ _ _ _ _ _ h.box];rfl
 ·unfold World.frozen?;rw[show W.heap[p]?=_ from h.box];simp
theorem TmW.call(h:TmW W B p v0 vs ls ws vr vw us)(h2:ls.length<=2000)(h3:∀r∈ls,r.length<=8)(hr:W.ownsRow (p+1) 3 1 I row.length (row.map (Value.int .i64)))(b7:row.length<=8)(wt:Int):
 Cl 70 #[vr,vw,I,.int .i64 wt] W λe w'=>∃v1 v2 a5,e=.returned (.tuple #[v1,v2])/\Bl W w'/\RWs w' (p+1) v1 a5 (qX ls (xM ls row) (xX ls row) row)/\w'.ownsRow (p+1) 3 1 v2 (qX ws (xM ls row) (xX ls row) wt).length ((qX ws (xM ls row) (xX ls row) wt).map (Value.int .i64)):=by
 have a2:I.oneCell'=true:=by obtain⟨a,c,rfl⟩:=qW hr;rfl
 have b9:=h.lt
 have key:Cl 70 #[vr,vw,I,.int .i64 wt] W (qDc W us ls ws row I wt):=by
  by_cases O:ls=[]
  ·obtain⟨e1,e2⟩:=h.nil O;have a6:ws=[]:=List.eq_nil_of_length_eq_zero (by rw[h.eq,O];rfl);have a7:us=[]:=List.eq_nil_of_length_eq_zero (by rw[h.rw.len,O];rfl);rw[e1,e2,O,a6,a7];exact J8 W I row wt (qK hr) Oo
  ·have a3:0 < ls.length:=List.length_pos_iff.2 O;have hE:=h.eq;obtain⟨g1,c1,e1,-,-⟩:=h.rw.own.form a3;obtain⟨g2,c2,e2,-,-⟩:=h.ow.form Oo;have hI:=h.rw.iss
   have a8:ls.length<=c1:=by
    rcases h.rw.own.2 with ⟨e,hz⟩|⟨g,cap,cur,e,-,-,M,-⟩
    ·omega
    ·rw[e1]at e;cases e;exact M
   have a9:ls.length<=c2:=by
    rcases h.ow.2 with ⟨e,hz⟩|⟨g,cap,cur,e,-,-,M,-⟩
    ·omega
    ·rw[e2]at e;cases e;omega
   have a4:=h.rw.own;have U:=h.ow;rw[e1]at a4 hI ⊢;rw[e2]at U ⊢;rw[show ws.length=ls.length from hE]at U ⊢;refine qA7 W g1 ls.length c1 g2 c2 I us ls ws row wt rfl h.rw.len hE a8 a9 h2 hI (λj K=>?_) (λj u K=>?_) (λu hu=>?_) (λj u K=>?_) (qK hr) a2 Oo
   ·have:ls.getD j []∈ls:=by rw[gD,bC K];exact gM K
    have:=h3 _ this;omega
   ·have V:j < us.length:=(List.getElem?_eq_some_iff.1 K).1;rw[a4.cellAt j (by rw[h.rw.len]at V;omega),K]
   ·obtain⟨j,K,rfl⟩:=gO hu;have:=h.rw.each j (by have:=h.rw.len;omega);rw[gD,bC K,Option.getD_some]at this;obtain⟨a,c,e⟩:=qW this;rw[e];rfl
   ·have V:j < (ws.map (Value.int .i64)).length:=(List.getElem?_eq_some_iff.1 K).1;rw[lM]at V;rw[U.cellAt j Oo,K]
 refine key.mono ?_;rintro e w' ⟨k,there,v1,v2,hF,O,hP⟩;obtain⟨rfl,rfl⟩:=hF.uniq (qBw ls row);have b0:(qX us (xM ls row) (xX ls row) I).length=(qX ws (xM ls row) (xX ls row) wt).length:=ZF (by rw[h.rw.len,h.eq]);refine⟨v1,v2,_,O,hP.bel,qCy h.rw Oo hF.1 hr hP,?_⟩;rw[<-b0];exact qF hP.own2 Oo
theorem TmW.put{M:List Value}{I:List (List Int)}{K:List Int}(h:TmW W B p v0 vs ls ws vr vw us)(hr:RWs W (p+1) v1 M I)(U:W.ownsRow (p+1) 3 1 v2 K.length (K.map (Value.int .i64)))(V:K.length=I.length)(O:I≠[]):
 TmW ((W.setCell ⟨p,1,none⟩ v1).setCell ⟨p,2,none⟩ v2) B p v0 vs I K v1 v2 M:=by
 have o0:∀{W:World} {o:Nat} {u:Value},W.ownsRow B 3 1 v0 vs.length (vs.map (Value.int .i64))->(W.setCell ⟨p,o,none⟩ u).ownsRow B 3 1 v0 vs.length (vs.map (Value.int .i64)):=λ{W o u} hx=>qA hx λc hc=>bE _ _ _ _ (show c≠p from h.ne0 c hc);refine⟨?_,o0 (o0 h.o0),h.ne0,(hr.setN Oo).setN Oo,kG (kG U Oo) Oo,V,λe=>absurd e O⟩;have h1:(W.setCell ⟨p,1,none⟩ v1).heap[p]?=some (.cells #[v0,v1,vw] 34 (0,0)):=by rw[bJ _ _ _ _ _ _ h.box];rfl
 rw[bJ _ _ _ _ _ _ h1];rfl
end
end Go.Proofs.YtkaipapdlnojiaaGreat
