import Derived.Test.YtkaipapdlnojiaaGreatWq01
set_option maxHeartbeats 40000000
set_option maxRecDepth 1000000
namespace Go.Proofs.YtkaipapdlnojiaaGreat.Cov
def Lex:List Rat->List Rat->Prop
 |a::l,b::r=>a < b∨(a=b/\Lex l r)
 |[],[]=>True
 |_,_=>False
theorem Lex.antisymm:∀{l r:List Rat},Lex l r->Lex r l->l=r
 |[],[],_,_=>rfl
 |[],_::_,h,_=>h.elim
 |_::_,[],h,_=>h.elim
 |a::l,b::r,I,K=>by
  rcases I with I|⟨I,M⟩ <;> rcases K with K|⟨K,O⟩
  ·exfalso;grind
  ·exfalso;grind
  ·exfalso;grind
  ·rw[I,Lex.antisymm M O]
def Aim(m n:Nat)(cost:Nat->Rat)(bar:Nat->Bool)(s:Sx)(bar':Nat->Bool)(s':Sx):Prop:=
 ∃k,stepOf m n cost bar (it m n cost bar s k)=none/\(∀k',k' < k->stepOf m n cost bar (it m n cost bar s k')≠none)/\s'=it m n cost bar s k/\bar'=narrowed m n cost bar s'
def Aims(m n:Nat):List (Nat->Rat)->(Nat->Bool)->Sx->(Nat->Bool)->Sx->Prop
 |[],bar,s,bar',s'=>bar'=bar/\s'=s
 |c::l,bar,s,bar',s'=>∃b1 s1,Aim m n c bar s b1 s1/\Aims m n l b1 s1 bar' s'
theorem Good.aim{m n:Nat}{A:Nat->Nat->Rat}{cost:Nat->Rat}{bar I:Nat->Bool}{s s':Sx}(h:Good m n A bar s)(O:Aim m n cost bar s I s')
 (L:Rat) (U:∀x,F m n A bar x->L<=dot n cost x):
 Good m n A I s'/\(∀x,F m n A I x->F m n A bar x/\dot n cost x=dot n cost (xb m n s'))/\
 (∀x,F m n A bar x->dot n cost (xb m n s')<=dot n cost x/\(dot n cost x<=dot n cost (xb m n s')->F m n A I x)):=by
 obtain⟨k,K,_,M,V⟩:=O;subst V;rw[<-M]at K;have hg:Good m n A bar s':=by rw[M];exact h.it k
 exact phase hg K L U
theorem Good.aims{m n:Nat}{A:Nat->Nat->Rat}:∀{l:List (Nat->Rat)} {bar I:Nat->Bool} {s s':Sx},Good m n A bar s->Aims m n l bar s I s'->
 (∀c∈l,∃L:Rat,∀x,F m n A bar x->L<=dot n c x)->
 Good m n A I s'/\(∀x,F m n A I x->F m n A bar x)/\∀x,F m n A bar x->Lex (l.map λc=>dot n c (xb m n s')) (l.map λc=>dot n c x)
 |[],bar,I,s,s',hg,ha,_=>by
  obtain⟨rfl,rfl⟩:=ha;exact⟨hg,λ_ K=>K,λ_ _=>trivial⟩
 |c::l,bar,I,s,s',hg,ha,hb=>by
  obtain⟨b1,s1,V,h2⟩:=ha;obtain⟨L,hL⟩:=hb c (List.mem_cons_self);obtain⟨g1,M,g3⟩:=hg.aim V L hL
  obtain⟨k1,k2,k3⟩:=Good.aims g1 h2 (λc' O=>by
   obtain⟨L',U⟩:=hb c' (mC _ O);exact⟨L',λx K=>U x (M x K).1⟩)
  refine⟨k1,λx K=>(M x (k2 x K)).1,λx K=>?_⟩;show dot n c (xb m n s') < dot n c x∨(dot n c (xb m n s')=dot n c x/\Lex (l.map λc=>dot n c (xb m n s')) (l.map λc=>dot n c x));have e1:=(M _ (k2 _ k1.xb_mem)).2;obtain⟨e2,e3⟩:=g3 x K;by_cases e:dot n c (xb m n s') < dot n c x
  ·exact Or.inl e
  ·exact Or.inr ⟨Rr,k3 x (e3 Rr)⟩
theorem qAY{m n:Nat}{A:Nat->Nat->Rat}(cost:Nat->Rat){bar:Nat->Bool}{s:Sx}(h:Good m n A bar s):∃I s',Aim m n cost bar s I s':=by
 obtain⟨k,K,M⟩:=halts cost h;exact⟨_,_,k,K,M,rfl,rfl⟩
def cf(a b:Nat)(v:Rat):Nat->Rat:=λj=>if a<=j/\j < b then v else 0
theorem sm_app(a b:Nat)(f:Nat->Rat):sm (a+b) f=sm a f+sm b (λi=>f (a+i)):=by
 induction b with
 |zero=>show sm a f=sm a f+0;grind
 |succ b ih=>
  show sm (a+b) f+f (a+b)=sm a f+(sm b (λi=>f (a+i))+f (a+b));rw[ih];grind
theorem UE{n k:Nat}(I:k < n)(x:Nat->Rat):dot n (cf k (k+1) 1) x=x k:=by
 unfold dot;rw[sm_single (k:=k) I]
 ·unfold cf;rw[if_pos ⟨Oo,Oo⟩];grind
 ·intro i _ K;unfold cf;rw[if_neg Oo];grind
theorem kn(a b c:Nat)(v:Rat)(x:Nat->Rat):dot (a+b+c) (cf a (a+b) v) x=v*sm b (λi=>x (a+i)):=by
 unfold dot;rw[sm_app (a+b) c,sm_app a b];have I:sm a (λj=>cf a (a+b) v j*x j)=0:=sm_zero (λi hi=>by unfold cf;rw[if_neg Oo];grind);have K:sm c (λi=>cf a (a+b) v (a+b+i)*x (a+b+i))=0:=sm_zero (λi hi=>by unfold cf;rw[if_neg Oo];grind);rw[I,K,<-sm_mul];have M:sm b (λi=>cf a (a+b) v (a+i)*x (a+i))=sm b (λi=>v*x (a+i)):=sm_congr (λi hi=>by unfold cf;rw[if_pos ⟨Oo,Oo⟩]);rw[M];grind
def units(u:Nat):List (Nat->Rat):=(List.range u).map λk=>cf k (k+1) 1
def key(v:Rat)(u:Nat)(x:Nat->Rat):List Rat:=(v*sm u x)::(List.range u).map x
theorem key_inj{v:Rat}{u:Nat}{x y:Nat->Rat}(h:key v u x=key v u y):∀k,k < u->x k=y k:=by
 intro k I;have K:(List.range u).map x=(List.range u).map y:=(List.cons.inj h).2;have M:((List.range u).map x)[k]?=((List.range u).map y)[k]?:=by rw[K]
 simpa[I]using M
theorem key_congr{v:Rat}{u:Nat}{x y:Nat->Rat}(h:∀k,k < u->x k=y k):key v u x=key v u y:=by
 unfold key;rw[sm_congr h];congr 1;refine List.map_congr_left (λk I=>h k (by simpa using I))
theorem jD{n u:Nat}(K:u<=n)(x:Nat->Rat):(units u).map (λc=>dot n c x)=(List.range u).map x:=by
 unfold units;rw[List.map_map];refine List.map_congr_left (λk I=>?_);have:k < u:=by simpa using I
 exact UE Oo x
theorem Qt{m n u:Nat}{A:Nat->Nat->Rat}(U:u<=n):∀c∈units u,∃L:Rat,∀x,F m n A (λ_=>false) x->L<=dot n c x:=by
 intro c I;unfold units at I;obtain⟨k,K,rfl⟩:=List.mem_map.1 I;have M:k < u:=by simpa using K
 exact⟨0,λx O=>by rw[UE Oo x];exact O.2.1 k Oo⟩
theorem Xa:∀m,det m (λj i=>if j=i then 1 else 0)=1
 |0=>rfl
 |m+1=>by
  show sm (m+1) _=1;rw[sm_single (k:=0) Oo]
  ·have e:minor 0 (λj i=>if j=i then (1:Rat) else 0)=λj i=>if j=i then 1 else 0:=by
    funext a b;show(if skip 0 a=b+1 then (1:Rat) else 0)=if a=b then 1 else 0
    rw[show skip 0 a=a+1 from if_neg Oo];by_cases e:a=b
    ·rw[if_pos e,if_pos Oo]
    ·rw[if_neg e,if_neg Oo]
   rw[e,Xa m];show 1*1*1=(1:Rat);grind
  ·intro i _ I;show sg i*(if i=0 then 1 else 0)*_=(0:Rat);rw[if_neg I];grind
theorem Zk{m n o:Nat}{A:Nat->Nat->Rat}(V:o+m<=n)(I:∀i,i < m->∀r,r < m->A (o+i) r=if i=r then 1 else 0)(K:∀r,r < m->A n r=1):
 Good m n A (λ_=>false) ⟨λi j=>A j i,λi=>o+i⟩:=by
 refine⟨⟨λi hi=>by show o+i < n;omega,λi hi k U=>?_,λj O r hr=>?_,?_⟩,λi hi=>?_,λ_ _=>rfl⟩
 ·show A (o+k) i=_;rw[I k U i hi];by_cases e:i=k
  ·rw[if_pos e,if_pos e.symm]
  ·rw[if_neg e,if_neg (λh=>e h.symm)]
 ·show A j r=sm m (λi=>A j i*A (o+i) r);rw[sm_single (k:=r) hr]
  ·rw[I r hr r hr,if_pos rfl];grind
  ·intro i hi M;rw[I i hi r hr,if_neg M];grind
 ·rw[jC (N:=λj i=>if j=i then 1 else 0) (λj O i hi=>I j O i hi),Xa];grind
 ·show 0<=A n i;rw[K i hi];decide
def Pack(m u:Nat)(M:Nat->Nat->Rat)(x:Nat->Rat):Prop:=(∀e,e < u->0<=x e)/\∀r,r < m->sm u (λe=>M r e*x e)<=1
def Cover(m u:Nat)(M:Nat->Nat->Rat)(x:Nat->Rat):Prop:=(∀e,e < u->0<=x e)/\∀r,r < m->1<=sm u (λe=>M r e*x e)
def packA(m u:Nat)(M:Nat->Nat->Rat):Nat->Nat->Rat:=λj r=>if j < u then M r j else if j < u+m then (if j - u=r then 1 else 0) else 1
def coverA(m u:Nat)(M:Nat->Nat->Rat):Nat->Nat->Rat:=λj r=>if j < u then M r j else if j < u+m then (if j - u=r then -1 else 0) else if j < u+m+m then (if j - u - m=r then 1 else 0) else 1
theorem uT{m r:Nat}(hr:r < m)(f:Nat->Rat)(v:Rat):sm m (λi=>f i*(if i=r then v else 0))=f r*v:=by
 rw[sm_single (k:=r) hr]
 ·rw[if_pos rfl]
 ·intro i _ I;rw[if_neg I];grind
theorem YW{m u:Nat}{M:Nat->Nat->Rat}{r:Nat}(hr:r < m)(x:Nat->Rat):sm (u+m) (λj=>x j*packA m u M j r)=sm u (λe=>M r e*x e)+x (u+r):=by
 rw[sm_app];have I:sm u (λj=>x j*packA m u M j r)=sm u (λe=>M r e*x e):=sm_congr (λi hi=>by unfold packA;rw[if_pos hi];grind)
 have K:sm m (λi=>x (u+i)*packA m u M (u+i) r)=sm m (λi=>x (u+i)*(if i=r then 1 else 0)):=sm_congr (λi hi=>by
  unfold packA;rw[if_neg Oo,if_pos Oo,show u+i - u=i by omega])
 rw[I,K,uT hr];grind
theorem pack_good{m u:Nat}{M:Nat->Nat->Rat}:Good m (u+m) (packA m u M) (λ_=>false) ⟨λi j=>packA m u M j i,λi=>u+i⟩:=by
 refine Zk Oo (λi hi r hr=>?_) (λr hr=>?_)
 ·unfold packA;rw[if_neg Oo,if_pos Oo,show u+i - u=i by omega]
 ·unfold packA;rw[if_neg Oo,if_neg Oo]
theorem pack_least{m u:Nat}{M:Nat->Nat->Rat}(hM:∀r,r < m->∀e,e < u->0<=M r e)(a5:∀e,e < u->∃r,r < m/\M r e=1){U:Nat->Bool}{s':Sx}
 (h:Aims m (u+m) (cf 0 u (-1)::units u) (λ_=>false) ⟨λi j=>packA m u M j i,λi=>u+i⟩ U s'):
 Good m (u+m) (packA m u M) U s'/\Pack m u M (xb m (u+m) s')/\∀y,Pack m u M y->Lex (key (-1) u (xb m (u+m) s')) (key (-1) u y):=by
 have I:∀x,dot (u+m) (cf 0 u (-1)) x=(-1)*sm u x:=by
  intro x;have:=kn 0 u m (-1) x;rw[show 0+u=u by omega]at this;rw[this];congr 1;exact sm_congr (λi _=>by rw[show 0+i=i by omega])
 have a2:∀x,F m (u+m) (packA m u M) (λ_=>false) x->∀r,r < m->sm u (λe=>M r e*x e)+x (u+r)=1:=by
  intro x O r hr;rw[<-YW hr x,O.1 r hr];unfold packA;rw[if_neg Oo,if_neg Oo]
 have K:∀x,F m (u+m) (packA m u M) (λ_=>false) x->Pack m u M x:=by
  intro x O;refine⟨λe he=>O.2.1 e Oo,λr hr=>?_⟩;have h1:=a2 x O r hr;have h2:=O.2.1 (u+r) Oo;grind
 have a3:∀x,F m (u+m) (packA m u M) (λ_=>false) x->∀e,e < u->x e<=1:=by
  intro x O e he;obtain⟨r,hr,a6⟩:=a5 e he;have hp:=(K x O).2 r hr
  have h1:M r e*x e<=sm u (λe=>M r e*x e):=by
   rw[yP he (λe=>M r e*x e)]
   have:0<=sm u (λi=>if i=e then 0 else M r i*x i):=sm_nonneg (λi hi=>by
    split
    ·grind
    ·exact Rat.mul_nonneg (hM r hr i hi) (O.2.1 i Oo))
   grind
  rw[a6]at h1;grind
 obtain⟨g1,g2,g3⟩:=(pack_good (m:=m) (u:=u) (M:=M)).aims h (λc hc=>by
  rcases List.mem_cons.1 hc with rfl|hc
  ·refine⟨-sm u (λ_=>1),λx O=>?_⟩;rw[I];have:=qAX (n:=u) (f:=x) (g:=λ_=>1) (λi hi=>a3 x O i hi);grind
  ·exact Qt Oo c hc)
 have hF:=g2 _ g1.xb_mem;refine⟨g1,K _ hF,λy hy=>?_⟩
 have a4:F m (u+m) (packA m u M) (λ_=>false) (λj=>if j < u then y j else 1 - sm u (λe=>M (j - u) e*y e)):=by
  refine⟨λr hr=>?_,λj hj=>?_,λj _ hb=>by cases hb⟩
  ·rw[YW hr];have e1:sm u (λe=>M r e*(if e < u then y e else 1 - sm u (λe'=>M (e - u) e'*y e')))=sm u (λe=>M r e*y e):=sm_congr (λi hi=>by rw[if_pos hi]);rw[e1,if_neg Oo,show u+r - u=r by omega];unfold packA;rw[if_neg Oo,if_neg Oo];grind
  ·show 0<=if j < u then y j else 1 - sm u (λe=>M (j - u) e*y e)
   split
   ·exact hy.1 j (by assumption)
   ·have:=hy.2 (j - u) Oo;grind
 have V:=g3 _ a4;rw[List.map_cons,List.map_cons,jD Oo,jD Oo,I,I]at V;have e2:key (-1) u (λj=>if j < u then y j else 1 - sm u (λe=>M (j - u) e*y e))=key (-1) u y:=key_congr (λk hk=>if_pos hk);rw[<-e2];exact V
theorem Zl{m u:Nat}{M:Nat->Nat->Rat}{r:Nat}(hr:r < m)(x:Nat->Rat):sm (u+m+m) (λj=>x j*coverA m u M j r)=sm u (λe=>M r e*x e) - x (u+r)+x (u+m+r):=by
 rw[sm_app (u+m) m,sm_app u m];have I:sm u (λj=>x j*coverA m u M j r)=sm u (λe=>M r e*x e):=sm_congr (λi hi=>by unfold coverA;rw[if_pos hi];grind)
 have K:sm m (λi=>x (u+i)*coverA m u M (u+i) r)=sm m (λi=>x (u+i)*(if i=r then -1 else 0)):=sm_congr (λi hi=>by
  unfold coverA;rw[if_neg Oo,if_pos Oo,show u+i - u=i by omega])
 have O:sm m (λi=>x (u+m+i)*coverA m u M (u+m+i) r)=sm m (λi=>x (u+m+i)*(if i=r then 1 else 0)):=sm_congr (λi hi=>by
  unfold coverA;rw[if_neg Oo,if_neg Oo,if_pos Oo,show u+m+i - u - m=i by omega])
 rw[I,K,O,uT hr (λi=>x (u+i)),uT hr (λi=>x (u+m+i))];grind
theorem cover_good{m u:Nat}{M:Nat->Nat->Rat}:Good m (u+m+m) (coverA m u M) (λ_=>false) ⟨λi j=>coverA m u M j i,λi=>u+m+i⟩:=by
 refine Zk Oo (λi hi r hr=>?_) (λr hr=>?_)
 ·unfold coverA;rw[if_neg Oo,if_neg Oo,if_pos Oo,show u+m+i - u - m=i by omega]
 ·unfold coverA;rw[if_neg Oo,if_neg Oo,if_neg Oo]
theorem cover_least{m u:Nat}{M:Nat->Nat->Rat}(hM:∀r,r < m->∀e,e < u->0<=M r e)(a5:∀r,r < m->∃e,e < u/\M r e=1){V:Nat->Bool}{s':Sx}
 (h:Aims m (u+m+m) (cf (u+m) (u+m+m) 1::cf 0 u 1::units u) (λ_=>false) ⟨λi j=>coverA m u M j i,λi=>u+m+i⟩ V s'):
 Good m (u+m+m) (coverA m u M) V s'/\Cover m u M (xb m (u+m+m) s')/\∀y,Cover m u M y->Lex (key 1 u (xb m (u+m+m) s')) (key 1 u y):=by
 have I:∀x,dot (u+m+m) (cf (u+m) (u+m+m) 1) x=sm m (λi=>x (u+m+i)):=by
  intro x;have:=kn (u+m) m 0 1 x;rw[Nat.add_zero]at this;rw[this];grind
 have O:∀x,dot (u+m+m) (cf 0 u 1) x=1*sm u x:=by
  intro x;have:=kn 0 u (m+m) 1 x;rw[show 0+u=u by omega,show u+(m+m)=u+m+m by omega]at this;rw[this];congr 1;exact sm_congr (λi _=>by rw[show 0+i=i by omega])
 have a4:∀x,F m (u+m+m) (coverA m u M) (λ_=>false) x->∀r,r < m->sm u (λe=>M r e*x e) - x (u+r)+x (u+m+r)=1:=by
  intro x hx r hr;rw[<-Zl hr x,hx.1 r hr];unfold coverA;rw[if_neg Oo,if_neg Oo,if_neg Oo]
 obtain⟨g1,g2,g3⟩:=(cover_good (m:=m) (u:=u) (M:=M)).aims h (λc hc=>by
  rcases List.mem_cons.1 hc with rfl|hc
  ·exact⟨0,λx hx=>by rw[I];exact sm_nonneg (λi hi=>hx.2.1 _ Oo)⟩
  ·rcases List.mem_cons.1 hc with rfl|hc
   ·exact⟨0,λx hx=>by rw[O];have:=sm_nonneg (n:=u) (f:=x) (λi hi=>hx.2.1 _ Oo);grind⟩
   ·exact Qt Oo c hc)
 have hF:=g2 _ g1.xb_mem
 have a2:∀y,Cover m u M y->F m (u+m+m) (coverA m u M) (λ_=>false) (λj=>if j < u then y j else if j < u+m then sm u (λe=>M (j - u) e*y e) - 1 else 0):=by
  intro y hy;refine⟨λr hr=>?_,λj hj=>?_,λj _ hb=>by cases hb⟩
  ·rw[Zl hr];have e1:sm u (λe=>M r e*(if e < u then y e else if e < u+m then sm u (λe'=>M (e - u) e'*y e') - 1 else 0))=sm u (λe=>M r e*y e):=sm_congr (λi hi=>by rw[if_pos hi]);rw[e1,if_neg Oo,if_pos Oo,if_neg Oo,if_neg Oo,show u+r - u=r by omega];unfold coverA;rw[if_neg Oo,if_neg Oo,if_neg Oo];grind
  ·show 0<=if j < u then y j else if j < u+m then sm u (λe=>M (j - u) e*y e) - 1 else 0
   split
   ·exact hy.1 j (by assumption)
   ·split
    ·have:=hy.2 (j - u) Oo;grind
    ·grind
 have U:∀y:Nat->Rat,dot (u+m+m) (cf (u+m) (u+m+m) 1) (λj=>if j < u then y j else if j < u+m then sm u (λe=>M (j - u) e*y e) - 1 else 0)=0:=by
  intro y;rw[I];exact sm_zero (λi _=>by rw[if_neg Oo,if_neg Oo])
 have a3:Cover m u M (λ_=>1):=by
  refine⟨λ_ _=>by show(0:Rat)<=1;decide,λr hr=>?_⟩;obtain⟨e,he,a6⟩:=a5 r hr;rw[yP he (λe=>M r e*1),a6]
  have:0<=sm u (λi=>if i=e then 0 else M r i*1):=sm_nonneg (λi hi=>by
   split
   ·grind
   ·have:=hM r hr i hi;grind)
  grind
 have hzero:sm m (λi=>xb m (u+m+m) s' (u+m+i))<=0:=by
  obtain⟨y1,a7⟩:∃y:Nat->Rat,Cover m u M y:=⟨_,a3⟩;have K:=g3 _ (a2 y1 a7);simp only[List.map_cons]at K;rw[U,I]at K;rcases K with K|⟨K,_⟩ <;> grind
 have hz:=jf (λi hi=>hF.2.1 _ Oo) hzero;refine⟨g1,⟨λe he=>hF.2.1 e Oo,λr hr=>?_⟩,λy hy=>?_⟩
 ·have K:=a4 _ hF r hr;have h2:=hz r hr;have h3:=hF.2.1 (u+r) Oo;grind
 ·have K:=g3 _ (a2 y hy);simp only[List.map_cons]at K;rw[jD Oo,jD Oo,U,I,O,O]at K;rw[sm_zero hz]at K;have e2:key 1 u (λj=>if j < u then y j else if j < u+m then sm u (λe=>M (j - u) e*y e) - 1 else 0)=key 1 u y:=key_congr (λk hk=>if_pos hk);rw[<-e2];rcases K with K|⟨_,K⟩
  ·exfalso;grind
  ·exact K
end Go.Proofs.YtkaipapdlnojiaaGreat.Cov
namespace Go.Proofs.YtkaipapdlnojiaaGreat.Cov
structure Dm where
 a:Nat->Rat
 up:Bool
 b:Rat
def Dm.at(n:Nat)(D:Dm)(x:Nat->Rat):Rat:=sm n (λi=>D.a i*x i)
def Dm.meets(n:Nat)(D:Dm)(x:Nat->Rat):Prop:=if D.up then D.at n x<=D.b else D.b<=D.at n x
def Kern(n:Nat)(S:List Dm):Prop:=∀d:Nat->Rat,(∀D∈S,D.at n d=0)->∀i,i < n->d i=0
theorem Qc:∀(k a:Nat) (f:Nat->Rat),a < k+1->sm (k+1) f=f a+sm k (λb=>f (skip a b))
 |k,a,f,h=>by
  by_cases e:a=k
  ·subst e;show sm a f+f a=f a+sm a (λb=>f (skip a b));have:sm a f=sm a (λb=>f (skip a b)):=sm_congr (λi hi=>by rw[show skip a i=i from if_pos hi]);rw[<-this];grind
  ·obtain⟨I,rfl⟩:∃I,k=I+1:=⟨k - 1,Oo⟩;have K:=Qc I a f Oo;show sm (I+1) f+f (I+1)=f a+(sm I (λb=>f (skip a b))+f (skip a I));rw[K,show skip a I=I+1 from if_neg Oo];grind
theorem Qx(a b:Nat):qt a (skip a b)=b:=by
 by_cases e:b < a
 ·rw[show skip a b=b from if_pos e];exact if_pos e
 ·rw[show skip a b=b+1 from if_neg e,show qt a (b+1)=b+1 - 1 from if_neg Oo];omega
theorem uX(n:Nat)(D:Dm)(x y:Nat->Rat)(t:Rat):D.at n (λi=>x i+t*y i)=D.at n x+t*D.at n y:=by
 unfold Dm.at;have e:(λi=>D.a i*(x i+t*y i))=λi=>D.a i*x i+t*(D.a i*y i):=by funext i;grind
 rw[e,sm_add,sm_mul]
theorem qFY(n k:Nat)(D:Dm)(c:Nat->Rat)(E:Nat->Nat->Rat):D.at n (λi=>sm k (λa=>c a*E a i))=sm k (λa=>c a*D.at n (E a)):=by
 unfold Dm.at
 have e:sm n (λi=>D.a i*sm k (λa=>c a*E a i))=sm n (λi=>sm k (λa=>c a*(D.a i*E a i))):=by
  refine sm_congr (λi _=>?_);rw[<-sm_mul];exact sm_congr (λa _=>Rr)
 rw[e,uJ];exact sm_congr (λa _=>sm_mul _ _ _)
theorem at_congr{n:Nat}(D:Dm){x y:Nat->Rat}(h:∀i,i < n->x i=y i):D.at n x=D.at n y:=
 sm_congr (λi hi=>by rw[h i hi])
structure Compl(n:Nat)(L S:List Dm)(k:Nat)(E:Nat->Nat->Rat):Prop where
 len:S.length+k=n
 sub:S.Sublist L
 orth:∀D∈L,∀a,a < k->D.at n (E a)=0
 span:∀d:Nat->Rat,(∀D∈S,D.at n d=0)->∃c:Nat->Rat,∀i,i < n->d i=sm k (λa=>c a*E a i)
 indep:∀c:Nat->Rat,(∀i,i < n->sm k (λa=>c a*E a i)=0)->∀a,a < k->c a=0
theorem ky(n:Nat):∀L:List Dm,∃S k E,Compl n L S k E
 |[]=>by
  refine⟨[],n,λa i=>if a=i then 1 else 0,Ss,List.Sublist.slnil,Ss,λd _=>⟨d,λi hi=>?_⟩,λc h a ha=>?_⟩
  ·rw[uT hi];grind
  ·have:=h a ha;rw[uT ha]at this;grind
 |D::L=>by
  obtain⟨S,k,E,h⟩:=ky n L;by_cases hz:∀a,a < k->D.at n (E a)=0
  ·refine⟨S,k,E,h.len,h.sub.cons D,λU I=>?_,h.span,h.indep⟩;rcases List.mem_cons.1 I with rfl|I
   ·exact hz
   ·exact h.orth U I
  ·obtain⟨a0,a2⟩:=Classical.not_forall.1 hz;obtain⟨M,a3⟩:=Classical.not_imp.1 a2;obtain⟨K,rfl⟩:∃K,k=K+1:=⟨k - 1,Oo⟩;have V:∀b,b < K->skip a0 b < K+1:=λb hb=>by unfold skip;split <;> omega
   refine⟨D::S,K,λb i=>E (skip a0 b) i+(-(D.at n (E (skip a0 b)) / D.at n (E a0)))*E a0 i,by have:=h.len;simp;omega,h.sub.cons_cons D,λU I b hb=>?_,λd hd=>?_,λc hc b hb=>?_⟩
   ·rw[uX];rcases List.mem_cons.1 I with rfl|I
    ·grind
    ·rw[h.orth U I _ (V b hb),h.orth U I a0 M];grind
   ·obtain⟨c,hc⟩:=h.span d (λU I=>hd U (mC _ I));refine⟨λb=>c (skip a0 b),λi hi=>?_⟩
    have h0:c a0*D.at n (E a0)+sm K (λb=>c (skip a0 b)*D.at n (E (skip a0 b)))=0:=by
     rw[<-Qc K a0 (λa=>c a*D.at n (E a)) M,<-qFY,<-at_congr D hc];exact hd D List.mem_cons_self
    rw[hc i hi,Qc K a0 _ M];have e1:(λb=>c (skip a0 b)*(E (skip a0 b) i+(-(D.at n (E (skip a0 b)) / D.at n (E a0)))*E a0 i))=λb=>c (skip a0 b)*E (skip a0 b) i+(-(E a0 i / D.at n (E a0)))*(c (skip a0 b)*D.at n (E (skip a0 b))):=by funext b;grind
    rw[e1,sm_add,sm_mul];grind
   ·have O:=h.indep (λa=>if a=a0 then -(sm K (λb=>c b*D.at n (E (skip a0 b)))) / D.at n (E a0) else c (qt a0 a)) (λi hi=>by
     rw[Qc K a0 _ M,if_pos rfl]
     have e1:sm K (λb=>(if skip a0 b=a0 then -(sm K (λb=>c b*D.at n (E (skip a0 b)))) / D.at n (E a0) else c (qt a0 (skip a0 b)))*E (skip a0 b) i)=sm K (λb=>c b*E (skip a0 b) i):=by
      refine sm_congr (λb _=>?_);rw[if_neg (by unfold skip;split <;> omega),Qx a0 b]
     rw[e1];have h2:=hc i hi;have e2:(λb=>c b*(E (skip a0 b) i+(-(D.at n (E (skip a0 b)) / D.at n (E a0)))*E a0 i))=λb=>c b*E (skip a0 b) i+(-(E a0 i / D.at n (E a0)))*(c b*D.at n (E (skip a0 b))):=by funext b;grind
     rw[e2,sm_add,sm_mul]at h2;grind) (skip a0 b) (V b hb)
    rw[if_neg (by unfold skip;split <;> omega),Qx a0 b]at O;exact O
theorem sq_nonneg(g:Rat):0<=g*g:=by
 by_cases h:0<=g
 ·exact Rat.mul_nonneg h h
 ·exact uF Rr Rr
theorem qD2(g:Rat):g<=g*g+1:=by
 have I:=sq_nonneg g;by_cases h:g<=1
 ·grind
 ·have:=Rat.mul_nonneg (show 0<=g by grind) (show 0<=g - 1 by grind);grind
theorem Zp{t s g:Rat}(I:0<=t)(K:t<=s / (g*g+1)):t*g<=s/\t*(-g)<=s:=by
 have M:=sq_nonneg g;have O:=Rat.mul_nonneg (show 0<=s / (g*g+1) - t by grind) (show 0<=g*g+1 by grind);have U:s / (g*g+1)*(g*g+1)=s:=Rr;have V:=Rat.mul_nonneg I (show 0<=g*g+1 - g by have:=qD2 g;grind);have h4:=Rat.mul_nonneg I (show 0<=g*g+1+g by have:=qD2 (-g);grind);constructor <;> grind
theorem Zq(n:Nat)(d x:Nat->Rat):∀L:List Dm,(∀D∈L,D.meets n x/\(D.at n x=D.b->D.at n d=0))->
 ∃t:Rat,0 < t/\∀t',0<=t'->t'<=t->∀D∈L,D.meets n (λi=>x i+t'*d i)/\D.meets n (λi=>x i+(-t')*d i)
 |[],_=>⟨1,Dd,Ss⟩
 |D::L,h=>by
  obtain⟨t,ht,hL⟩:=Zq n d x L (λD' I=>h D' (mC _ I))
  have key:∃M:Rat,0 < M/\∀t',0<=t'->t'<=M->D.meets n (λi=>x i+t'*d i)/\D.meets n (λi=>x i+(-t')*d i):=by
   obtain⟨U,h2⟩:=h D List.mem_cons_self;by_cases e:D.at n x=D.b
   ·refine⟨1,Dd,λt' _ _=>?_⟩;unfold Dm.meets;rw[uX,uX,h2 e,e];constructor <;> split <;> grind
   ·unfold Dm.meets at U ⊢;have a2:=sq_nonneg (D.at n d);cases hu:D.up with
    |true=>
     rw[hu]at U;simp only[if_true]at U ⊢;have K:0 < D.b - D.at n x:=Rr;refine⟨(D.b - D.at n x) / (D.at n d*D.at n d+1),?_,λt' O V=>?_⟩
     ·rw[Rat.div_def];exact Rat.mul_pos K (Rat.inv_pos.2 Rr)
     ·obtain⟨s1,s2⟩:=Zp O V;rw[uX,uX];constructor <;> grind
    |false=>
     rw[hu]at U;simp only[Bool.false_eq_true,if_false]at U ⊢;have K:0 < D.at n x - D.b:=Rr;refine⟨(D.at n x - D.b) / (D.at n d*D.at n d+1),?_,λt' O V=>?_⟩
     ·rw[Rat.div_def];exact Rat.mul_pos K (Rat.inv_pos.2 Rr)
     ·obtain⟨s1,s2⟩:=Zp O V;rw[uX,uX];constructor <;> grind
  obtain⟨M,a3,hD⟩:=key;refine⟨if t<=M then t else M,by split <;> assumption,λt' O V D' I=>?_⟩
  have h5:t'<=t/\t'<=M:=by
   split at V <;> constructor <;> grind
  rcases List.mem_cons.1 I with rfl|I
  ·exact hD t' O h5.2
  ·exact hL t' O h5.1 D' I
theorem UJ{t:Rat}(U:0 < t):∀(l e:List Rat),l.length=e.length->Lex l (List.zipWith (λa b=>a+t*b) l e)->Lex l (List.zipWith (λa b=>a+(-t)*b) l e)->∀z∈e,z=0
 |[],[],_,_,_,z,M=>by cases M
 |[],_::_,h,_,_,_,_=>by cases h
 |_::_,[],h,_,_,_,_=>by cases h
 |a::l,b::e,hl,h1,h2,z,M=>by
  have I:a < a+t*b∨(a=a+t*b/\Lex l (List.zipWith (λa b=>a+t*b) l e)):=h1;have K:a < a+(-t)*b∨(a=a+(-t)*b/\Lex l (List.zipWith (λa b=>a+(-t)*b) l e)):=h2
  have hb:t*b=0/\Lex l (List.zipWith (λa b=>a+t*b) l e)/\Lex l (List.zipWith (λa b=>a+(-t)*b) l e):=by
   rcases I with I|⟨I,V⟩ <;> rcases K with K|⟨K,h4⟩
   ·exfalso;grind
   ·exfalso;grind
   ·exfalso;grind
   ·exact⟨Rr,V,h4⟩
  have O:b=0:=by
   rcases Rat.mul_eq_zero.1 hb.1 with e|e
   ·grind
   ·exact e
  rcases List.mem_cons.1 M with rfl|M
  ·exact O
  ·exact UJ U l e (by simpa using hl) hb.2.1 hb.2.2 z M
theorem zip_map(f:Rat->Rat->Rat)(x d:Nat->Rat):∀R:List Nat,List.zipWith f (R.map x) (R.map d)=R.map λk=>f (x k) (d k)
 |[]=>rfl
 |k::R=>by
  show f (x k) (d k)::List.zipWith f (R.map x) (R.map d)=_;rw[zip_map f x d R];rfl
theorem qEG(v:Rat)(u:Nat)(x d:Nat->Rat)(t:Rat):key v u (λi=>x i+t*d i)=List.zipWith (λa b=>a+t*b) (key v u x) (key v u d):=by
 show(v*sm u (λi=>x i+t*d i))::_=(v*sm u x+t*(v*sm u d))::List.zipWith (λa b=>a+t*b) ((List.range u).map x) ((List.range u).map d);rw[zip_map,sm_add,sm_mul];congr 1;grind
theorem corner_exists{n:Nat}{v:Rat}(all:List Dm)(x:Nat->Rat)(hx:∀D∈all,D.meets n x)(I:∀y,(∀D∈all,D.meets n y)->Lex (key v n x) (key v n y)):
 ∃S:List Dm,S.Sublist all/\S.length=n/\(∀D∈S,D.at n x=D.b)/\Kern n S:=by
 have dec:∀D:Dm,Decidable (D.at n x=D.b):=λD=>Classical.propDecidable _;obtain⟨S,k,E,h⟩:=ky n (all.filter λD=>@decide (D.at n x=D.b) (dec D));cases k with
 |zero=>
  refine⟨S,h.sub.trans List.filter_sublist,h.len,λD K=>?_,λd hd i hi=>?_⟩
  ·have:=h.sub.subset K;simpa using (List.mem_filter.1 this).2
  ·obtain⟨c,hc⟩:=h.span d hd;exact hc i hi
 |succ k=>
  exfalso;obtain⟨t,ht,O⟩:=Zq n (E 0) x all (λD K=>⟨hx D K,λe=>h.orth D (List.mem_filter.2 ⟨K,by simpa using e⟩) 0 Oo⟩);have U:=I _ (λD K=>(O t Rr Rr D K).1);have V:=I _ (λD K=>(O t Rr Rr D K).2);rw[qEG]at U V;have h3:=UJ ht (key v n x) (key v n (E 0)) (by simp[key]) U V
  have h4:∀i,i < n->E 0 i=0:=by
   intro i hi;refine h3 _ ?_;unfold key;exact mC _ (List.mem_map.2 ⟨i,by simpa using hi,rfl⟩)
  have h5:=h.indep (λa=>if a=0 then 1 else 0) (λi hi=>by
   rw[sm_single (k:=0) Oo]
   ·rw[h4 i hi];grind
   ·intro a _ M;rw[if_neg M];grind) 0 Oo
  simp at h5
end Go.Proofs.YtkaipapdlnojiaaGreat.Cov
